/-
  Layer 9: what its laws share: a map's items, what a law made itself, the document's examples, what memory holds.
  Conditions: those that each theorem states.
-/
import Derived.Test.YtnnmcfklmmpdaaaRef09a
import Derived.Test.YtnnmcfklmmpdaaaRef09f
import Derived.Lib.ConvBytes
import Derived.Maps.AppendAt
import Derived.Test.YtnnmcfklmmpdaaaTab9
import Derived.Lib.BytesEntry
import Derived.Lib.Bytealg
import Derived.Laws.Externs
import Derived.Shelf.SlSortCmp.WholeK
import Derived.Test.YtnnmcfklmmpdaaaShelf
import Derived.Deep.RegionHeld
import Derived.Deep.RegionHeld3
import Derived.Deep.DeepCutAuto
import Derived.Test.YtnnmcfklmmpdaaaMem6
import Derived.Maps.RangeWalk
import Derived.LoopTactic
import Derived.Test.YtnnmcfklmmpdaaaTab14
import Derived.Test.YtnnmcfklmmpdaaaTabPlain
import Derived.Test.YtnnmcfklmmpdaaaTabNew
import Derived.Test.YtnnmcfklmmpdaaaRef09e
import Derived.Test.YtnnmcfklmmpdaaaRef09d
import Derived.Test.YtnnmcfklmmpdaaaMem1
import Derived.Test.YtnnmcfklmmpdaaaRef09q
import Derived.Test.YtnnmcfklmmpdaaaRows
import Derived.WalkKit
import Derived.ProofKit
import Derived.OpenShut
import Derived.ChangeOld
import Derived.Below
import Derived.Carry
import Derived.Test.YtnnmcfklmmpdaaaByt
import Derived.Deep.Slices
import Derived.ChangeSlices

/-
  Layer 9's own Same: are both lists of keys and values.
  Conditions: the numbers fit their kinds.
-/
namespace Go.Proofs.Ytnnmcfklmmpdaaa
open Go.RowKit
set_option maxRecDepth 100000
set_option linter.unusedVariables false
set_option linter.unusedSimpArgs false

abbrev It := List Int × List Int
def iAt (l : List It) (k : Nat) : It := l.getD k ([], [])
/-- A slice reads as a row of keys and values. -/
def ItemS (w : World) (A : Option Addr) (l : List It) : Prop :=
  0 < l.length → ∃ g o, A = some ⟨g, o, none⟩ ∧ g < w.heap.size ∧ ∀ k, k < l.length → ∃ A1 c1 A2 c2, w.cell? ⟨g, o + k * 2, none⟩ = some (.slice A1 (iAt l k).1.length c1) ∧ w.cell? ⟨g, o + k * 2 + 1, none⟩ = some (.slice A2 (iAt l k).2.length c2) ∧ BytS w A1 (iAt l k).1 ∧ BytS w A2 (iAt l k).2
theorem ItemS.after {w w' : World} {A : Option Addr} {l : List It} (h : ItemS w A l) (b : Below w.heap.size w w') : ItemS w' A l := fun hl => by
  obtain ⟨g, o, e, hg, hc⟩ := h hl
  have q : ∀ p, w'.cell? ⟨g, p, none⟩ = w.cell? ⟨g, p, none⟩ := fun p => b.cell (p := ⟨g, p, none⟩) hg
  refine ⟨g, o, e, Nat.lt_of_lt_of_le hg b.size, fun k hk => ?_⟩
  obtain ⟨A1, c1, A2, c2, h1, h2, h3, h4⟩ := hc k hk
  exact ⟨A1, c1, A2, c2, by rw [q]; exact h1, by rw [q]; exact h2, h3.after b, h4.after b⟩
def OkI (l : List It) : Prop := ∀ k, k < l.length → OkB (iAt l k).1 ∧ OkB (iAt l k).2
theorem it_ext {x y : List It} (h : x.length = y.length) (ha : ∀ k, k < x.length → iAt x k = iAt y k) : x = y := by
  apply List.ext_getElem h
  intro k h1 h2
  have := ha k h1
  unfold iAt at this
  rw [List.getD_eq_getElem?_getD, List.getD_eq_getElem?_getD, List.getElem?_eq_getElem h1, List.getElem?_eq_getElem h2] at this
  exact this

set_option maxHeartbeats 4000000 in
theorem r9_Same (w : World) (x y : List It) (A B : Option Addr) (c d : Nat) (hx : ItemS w A x) (hy : ItemS w B y) (ox : OkI x) (oy : OkI y) (hc : x.length ≤ c) (hd : y.length ≤ d) (hcm : c ≤ maxLen) (hdm : d ≤ maxLen) :
    Calls Try.prog 16 #[.slice A x.length c, .slice B y.length d] w (Gives (.bool (decide (x = y))) w) := by
  have HNE : Hid (¬ x.length = y.length → decide (x = y) = false) := Lib.hid fun h => decide_eq_false (fun e => h (by rw [e]))
  have HAT : Hid (∀ k, ¬ iAt x k = iAt y k → decide (x = y) = false) := Lib.hid fun k h => decide_eq_false (fun e => h (by rw [e]))
  have HEQ : Hid (x.length = y.length → (∀ k, k < x.length → iAt x k = iAt y k) → decide (x = y) = true) := Lib.hid fun h h' => decide_eq_true (it_ext h h')
  have HX := Lib.hid hx
  have HY := Lib.hid hy
  have OX := Lib.hid ox
  have OY := Lib.hid oy
  clear hx hy ox oy
  unfold maxLen at hcm hdm
  generalize hnx : x.length = nx at *
  generalize hny : y.length = ny at *
  have HNX := Lib.hid hnx
  have HNY := Lib.hid hny
  clear hnx hny
  by_cases hl : nx = ny
  · subst hl
    have hlb : ((nx : Int) != (nx : Int)) = false := by simp
    go_enter Try.func16, Try.ntmps16
    go_wp2_with fail
    go_loopw [5] (fun iv wr => ∃ j : Nat, iv = .int .i64 j ∧ j ≤ nx ∧ Hid (∀ t, t < j → iAt x t = iAt y t) ∧ Hid (Below w.heap.size w wr)) (fun iv wr => nx - (intOf iv).toNat)
    case atStart => exact ⟨0, rfl, by omega, Lib.hid fun t ht => by omega, Lib.hid (Below.refl _ _)⟩
    case round =>
      obtain ⟨j, rfl, hj, HT, V⟩ := hrel
      have j0 : (0 : Int) ≤ j := by omega
      by_cases hlt : (j : Int) < nx
      · have hjn : j < nx := by omega
        obtain ⟨gx, ox, rfl, hgx, hcx⟩ := HX.out.after V.out (by rw [HNX.out]; omega)
        obtain ⟨gy, oy, rfl, hgy, hcy⟩ := HY.out.after V.out (by rw [HNY.out]; omega)
        obtain ⟨A1, c1, A2, c2, x0, x1, x2, x3⟩ := hcx j (by rw [HNX.out]; exact hjn)
        obtain ⟨B1, d1, B2, d2, y0, y1, y2, y3⟩ := hcy j (by rw [HNY.out]; exact hjn)
        obtain ⟨p1, p2⟩ := OX.out j (by rw [HNX.out]; exact hjn)
        obtain ⟨q1, q2⟩ := OY.out j (by rw [HNY.out]; exact hjn)
        have DR : Hid (∀ q, Below wr.heap.size wr (wr.drewN q)) := Lib.hid fun q => below_drewN (Below.refl _ _) q
        have s1 := fun q => str_bytS (x2.after (DR.out q)) c1
        have s2 := fun q => str_bytS (x3.after (DR.out q)) c2
        have t1 := fun q => str_bytS (y2.after (DR.out q)) d1
        have t2 := fun q => str_bytS (y3.after (DR.out q)) d2
        have e1 := eq_str p1 q1
        have e2 := eq_str p2 q2
        have HA2 := Lib.hid (HAT.out j)
        have HT2 : Hid ((iAt x j).1 = (iAt y j).1 → (iAt x j).2 = (iAt y j).2 → ∀ t, t < j + 1 → iAt x t = iAt y t) := Lib.hid fun h1 h2 t ht => by
          by_cases e : t = j
          · rw [e]; exact Prod.ext h1 h2
          · exact HT.out t (by omega)
        have PR : Hid (∀ a b : It, a = b → a.1 = b.1 ∧ a.2 = b.2) := Lib.hid fun a b h => by rw [h]; exact ⟨rfl, rfl⟩
        clear x2 x3 y2 y3 p1 p2 q1 q2 hcx hcy HT
        cases h1 : ((iAt x j).1 == (iAt y j).1)
        · have HE := Lib.hid (HA2.out (fun e => by rw [(PR.out _ _ e).1] at h1; simp at h1))
          rw [h1] at e1
          clear HT2 h1
          generalize (iAt x j).1 = xk at *
          generalize (iAt y j).1 = yk at *
          generalize (iAt x j).2 = xv at *
          generalize (iAt y j).2 = yv at *
          go_wp2_with fail
          go_quiet (fail)
          have V2 := Lib.hid (below_next' V.out (DR.out nq))
          clear DR s1 s2 t1 t2
          generalize wr.drewN nq = wq at *
          go_wp2_with fail
          go_ret
          exact ⟨end_bool HE.out.symm, V2.out⟩
        · cases h2 : ((iAt x j).2 == (iAt y j).2)
          · have HE := Lib.hid (HA2.out (fun e => by rw [(PR.out _ _ e).2] at h2; simp at h2))
            rw [h1] at e1
            rw [h2] at e2
            clear HT2 h1 h2
            generalize (iAt x j).1 = xk at *
            generalize (iAt y j).1 = yk at *
            generalize (iAt x j).2 = xv at *
            generalize (iAt y j).2 = yv at *
            go_wp2_with fail
            go_quiet (fail)
            have V2 := Lib.hid (below_next' V.out (DR.out nq))
            clear DR s1 s2 t1 t2
            generalize wr.drewN nq = wq at *
            go_wp2_with fail
            go_ret
            exact ⟨end_bool HE.out.symm, V2.out⟩
          · have HN := Lib.hid (HT2.out (by simpa using h1) (by simpa using h2))
            rw [h1] at e1
            rw [h2] at e2
            clear HT2 h1 h2 HA2
            generalize (iAt x j).1 = xk at *
            generalize (iAt y j).1 = yk at *
            generalize (iAt x j).2 = xv at *
            generalize (iAt y j).2 = yv at *
            go_wp2_with fail
            go_quiet (fail)
            have V2 := Lib.hid (below_next' V.out (DR.out nq))
            clear DR s1 s2 t1 t2
            generalize wr.drewN nq = wq at *
            go_wp2_with fail
            go_round
            case rel => exact ⟨j + 1, by go_num, by omega, HN, V2⟩
            case measure => simp [intOf]; omega
      · have hjn : j = nx := by omega
        subst hjn
        have HE := Lib.hid (HEQ.out trivial HT.out)
        go_wp2_with fail
        go_ret
        exact ⟨end_bool HE.out.symm, V.out⟩
  · have hlb : ((nx : Int) != (ny : Int)) = true := by simp; omega
    have HE := Lib.hid (HNE.out hl)
    go_enter Try.func16, Try.ntmps16
    go_wp2_with fail
    go_ret
    exact ⟨end_bool HE.out.symm, Below.refl _ _⟩

end Go.Proofs.Ytnnmcfklmmpdaaa


/-
  Layer 9's own items: rows of keys' and values' bytes, one behind the other.
  Conditions: none.
-/
namespace Go.Proofs.Ytnnmcfklmmpdaaa
open Go.RowKit
set_option maxRecDepth 100000
set_option linter.unusedVariables false
set_option linter.unusedSimpArgs false

theorem u8_nat {x : Int} (h : 0 ≤ x ∧ x ≤ 255) : ((UInt8.ofNat x.toNat).toNat : Int) = x := by
  rw [UInt8.toNat_ofNat']
  omega
/-- '[]byte(s)': bytes of the call's own. -/
theorem conv_bytes (u : World) (k : List Int) (hk : OkB k) :
    ∃ c w', (convert 9 40 (.string (strOfNums k))).run Try.prog u = .ok (.slice (some ⟨u.heap.size, 0, none⟩) k.length c) w' ∧ (BytS w' (some ⟨u.heap.size, 0, none⟩) k ∧ u.heap.size < w'.heap.size) ∧ Below u.heap.size u w' := by
  have hd : (strOfNums k).data.toList = k.map fun n => UInt8.ofNat n.toNat := rfl
  have hsz : (strOfNums k).size = k.length := by
    have := congrArg List.length hd
    rw [List.length_map] at this
    exact this
  have hr := Lib.run_convert_string_bytes (P := Try.prog) u 9 40 5 (strOfNums k) Try.underlying9 Try.underlying40 Try.underlying5
  rw [hsz] at hr
  have hw := Lib.bytesWorld_size u 5 (strOfNums k)
  refine ⟨_, _, hr, ⟨fun hl => ⟨u.heap.size, 0, rfl, by omega, fun j hj => ?_⟩, by omega⟩, ⟨rfl, rfl, rfl, by omega, fun j hj => Lib.bytesWorld_at_old u _ _ j hj⟩⟩
  rw [Nat.zero_add, Lib.bytesWorld_cell u _ _ j (by omega), hd]
  congr 1
  have h := u8_nat (hk j hj)
  have e : (List.map (fun n : Int => UInt8.ofNat n.toNat) k).getD j 0 = UInt8.ofNat (bAt k j).toNat := by
    unfold bAt
    rw [List.getD_eq_getElem?_getD, List.getD_eq_getElem?_getD, List.getElem?_map, List.getElem?_eq_getElem hj]
    rfl
  rw [e, h]
theorem bytS_keep {w w' : World} {A : Option Addr} {b : List Int} (h : BytS w A b) (hs : w.heap.size ≤ w'.heap.size) (hk : ∀ g o, 0 < b.length → A = some ⟨g, o, none⟩ → g < w.heap.size → w'.heap[g]? = w.heap[g]?) : BytS w' A b := fun hp => by
  obtain ⟨g, o, e, hg, hc⟩ := h hp
  refine ⟨g, o, e, Nat.lt_of_lt_of_le hg hs, fun j hj => ?_⟩
  rw [World.cell?_of_block (w := w) (a := ⟨g, o + j, none⟩) (hk g o hp e hg)]
  exact hc j hj
theorem bytS_grown {w w' : World} {gk : Nat} {k : List Int} {row : Option Nat} (h : BytS w (some ⟨gk, 0, none⟩) k) (hl : gk < w.heap.size) (hg : w.grownBy w' row) (hne : some gk ≠ row) : BytS w' (some ⟨gk, 0, none⟩) k :=
  bytS_keep h hg.size fun g o _ e _ => by cases e; exact hg.block gk hl hne

/-- An item, and where its bytes lie. -/
structure Itm where
  k : List Int
  v : List Int
  a : Option Addr
  c : Nat
  b : Option Addr
  d : Nat
def Itm.zero : Itm := ⟨[], [], none, 0, none, 0⟩
def xAt (L : List Itm) (j : Nat) : Itm := L.getD j Itm.zero
def cI (x : Itm) : List Value := [.slice x.a x.k.length x.c, .slice x.b x.v.length x.d]
def iC (L : List Itm) : List Value := L.flatMap cI
theorem iC_len (L : List Itm) : (iC L).length = L.length * 2 := by
  induction L with
  | nil => rfl
  | cons x L ih => simp only [iC, List.flatMap_cons, List.length_append] at *; rw [ih]; simp [cI]; omega
theorem iC_app (a b : List Itm) : iC (a ++ b) = iC a ++ iC b := by simp [iC]
theorem iC_at (L : List Itm) (k r : Nat) (h : k < L.length) (hr : r < 2) : (iC L)[k * 2 + r]? = (cI (xAt L k))[r]? := by
  induction L generalizing k with
  | nil => cases h
  | cons x L ih =>
    cases k with
    | zero =>
      rw [Nat.zero_mul, Nat.zero_add]
      unfold iC
      rw [List.flatMap_cons, List.getElem?_append_left (by simp [cI]; omega)]
      rfl
    | succ k =>
      have := ih k (by simpa using h)
      unfold iC at this ⊢
      rw [List.flatMap_cons, List.getElem?_append_right (by simp [cI]; omega)]
      rw [show (k + 1) * 2 + r - (cI x).length = k * 2 + r by simp [cI]; omega, this]
      rfl
theorem cI_one (x : Itm) : ∀ u ∈ cI x, u.oneCell' = true := by
  intro u hu
  simp only [cI, List.mem_cons, List.not_mem_nil, or_false] at hu
  rcases hu with rfl | rfl <;> rfl
/-- A row of items of the call's own; no item's bytes lie in the row's block. -/
structure ItR (base : Nat) (w : World) (v : Value) (L : List Itm) : Prop where
  row : w.ownsRow base 60 2 v L.length (iC L)
  byt : ∀ j, j < L.length → BytS w (xAt L j).a (xAt L j).k ∧ BytS w (xAt L j).b (xAt L j).v
  low : ∀ j, j < L.length → ∀ g o, ((xAt L j).a = some ⟨g, o, none⟩ → base ≤ g) ∧ ((xAt L j).b = some ⟨g, o, none⟩ → base ≤ g)
  sep : ∀ j, j < L.length → ∀ g o, (0 < (xAt L j).k.length → (xAt L j).a = some ⟨g, o, none⟩ → v.ownBlock ≠ some g) ∧ (0 < (xAt L j).v.length → (xAt L j).b = some ⟨g, o, none⟩ → v.ownBlock ≠ some g)
structure ItD (base : Nat) (w : World) (v : Value) (w' : World) (v' : Value) (L : List Itm) : Prop where
  rep : ItR base w' v' L
  below : Below base w w'
  keep : ∀ g, g < w.heap.size → v.ownBlock ≠ some g → w'.heap[g]? = w.heap[g]?
theorem ItR.nil (base : Nat) (w : World) : ItR base w (.slice none 0 0) [] :=
  ⟨World.ownsRow_nil w base 60 2, fun j hj => absurd hj (by simp), fun j hj => absurd hj (by simp), fun j hj => absurd hj (by simp)⟩
theorem ItR.after {base : Nat} {w u : World} {v : Value} {L : List Itm} (h : ItR base w v L) (b : Below w.heap.size w u) : ItR base u v L :=
  ⟨own_after h.row b, fun j hj => ⟨(h.byt j hj).1.after b, (h.byt j hj).2.after b⟩, h.low, h.sep⟩
/-- Items stay while all of the call's own blocks do. -/
theorem ItR.stay {base : Nat} {w u : World} {v : Value} {L : List Itm} (h : ItR base w v L) (hz : w.heap.size ≤ u.heap.size) (hs : ∀ g, base ≤ g → g < w.heap.size → u.heap[g]? = w.heap[g]?) : ItR base u v L :=
  ⟨own_same h.row (fun g e => hs g (h.row.lt g e).1 (h.row.lt g e).2), fun j hj => ⟨bytS_keep (h.byt j hj).1 hz (fun g o _ e l => hs g ((h.low j hj g o).1 e) l), bytS_keep (h.byt j hj).2 hz (fun g o _ e l => hs g ((h.low j hj g o).2 e) l)⟩, h.low, h.sep⟩
theorem xAt_app {L : List Itm} {x : Itm} {j : Nat} (h : j < (L ++ [x]).length) : (j < L.length ∧ xAt (L ++ [x]) j = xAt L j) ∨ (j = L.length ∧ xAt (L ++ [x]) j = x) := by
  unfold xAt
  rw [List.getD_eq_getElem?_getD, List.getD_eq_getElem?_getD]
  rw [List.length_append, List.length_singleton] at h
  by_cases c : j < L.length
  · exact .inl ⟨c, by rw [List.getElem?_append_left c]⟩
  · refine .inr ⟨by omega, ?_⟩
    rw [List.getElem?_append_right (by omega), show j - L.length = 0 by omega]
    rfl
theorem ItR.append {base : Nat} {w u : World} {v : Value} {L : List Itm} {ty : TypeId} (h : ItR base w v L) (hb : Below w.heap.size w u) (hbase : base ≤ w.heap.size) (x : Itm) (h1 : BytS u x.a x.k) (h2 : BytS u x.b x.v) (n1 : ∀ g o, x.a = some ⟨g, o, none⟩ → w.heap.size ≤ g) (n2 : ∀ g o, x.b = some ⟨g, o, none⟩ → w.heap.size ≤ g)
    {b : Nat} (hblk : Blk b (cI x).toArray 60 u) (hn : L.length ≤ 100000) :
    ∃ v' w', (Builtin.append_ #[46, 46] ty #[v, .slice (some ⟨b, 0, none⟩) 1 1]).run Try.prog u = .ok v' w' ∧ ItD base w v w' v' (L ++ [x]) := by
  obtain ⟨i1, hi1, hz, q1, q2⟩ := info_parts (show (Try.prog.info? 60).map (fun i => (i.zero, i.size, i.bytes)) = some (some (.agg #[.slice none 0 0, .slice none 0 0]), 2, 48) by kernel_rfl)
  have hsz := hb.size
  have hnews : ∀ j c, (cI x)[j]? = some c → u.cell? ((⟨b, 0, none⟩ : Addr).add j) = some c := by
    intro j c hc
    have hadd : (⟨b, 0, none⟩ : Addr).add j = ⟨b, j, none⟩ := by unfold Addr.add; split <;> simp_all
    rw [hadd, Blk.cell hblk j]
    simpa using hc
  obtain ⟨v', w', hr, ho, hg, _, hat⟩ := run_append_own_at (P := Try.prog) u base 46 ty 60 i1 (.agg #[.slice none 0 0, .slice none 0 0]) 2 48 Try.underlying46 hi1 hz q1 q2 rfl (by omega) v L.length (iC L) (own_after h.row hb) ⟨b, 0, none⟩ 1 1 (cI x) rfl hnews (cI_one x) (by unfold maxLen; omega) (by omega) (by omega)
  have hold : ∀ g, g < u.heap.size → v.ownBlock ≠ some g → w'.heap[g]? = u.heap[g]? := fun g hl hne => hg.block g hl (fun e => hne e.symm)
  have hlow : ∀ g, v.ownBlock = some g → g < w.heap.size := fun g e => own_lt h.row e
  refine ⟨v', w', hr, ⟨⟨?_, fun j hj => ?_, fun j hj g o => ?_, fun j hj => ?_⟩, below_own (hb.mono hbase) (own_after h.row hb) (by omega) hg, fun g hl hne => (hold g (by omega) hne).trans (hb.block g hl)⟩⟩
  · rw [List.length_append, iC_app, show iC [x] = cI x by simp [iC]]
    exact ho
  · rcases xAt_app hj with ⟨c, e⟩ | ⟨c, e⟩ <;> rw [e]
    · exact ⟨bytS_keep ((h.byt j c).1.after hb) hg.size (fun g o p q r => hold g r ((h.sep j c g o).1 p q)), bytS_keep ((h.byt j c).2.after hb) hg.size (fun g o p q r => hold g r ((h.sep j c g o).2 p q))⟩
    · exact ⟨bytS_keep h1 hg.size (fun g o p q r => hold g r (fun e => by have := hlow g e; have := n1 g o q; omega)), bytS_keep h2 hg.size (fun g o p q r => hold g r (fun e => by have := hlow g e; have := n2 g o q; omega))⟩
  · rcases xAt_app hj with ⟨c, e⟩ | ⟨c, e⟩ <;> rw [e]
    · exact h.low j c g o
    · exact ⟨fun q => Nat.le_trans hbase (n1 g o q), fun q => Nat.le_trans hbase (n2 g o q)⟩
  · have lt1 : ∀ (A : Option Addr) (l : List Int) g o, BytS u A l → 0 < l.length → A = some ⟨g, o, none⟩ → g < u.heap.size := fun A l g o q p e => by
      obtain ⟨g', o', e', hl, _⟩ := q p
      rw [e] at e'
      injection e' with e'
      injection e' with e'
      omega
    have key : ∀ g, g < u.heap.size → v.ownBlock ≠ some g → v'.ownBlock ≠ some g := fun g hl hne e => by
      rcases hat with k | k
      · exact hne (k ▸ e)
      · rw [k] at e
        injection e with e
        omega
    intro g o
    rcases xAt_app hj with ⟨c, e⟩ | ⟨c, e⟩ <;> rw [e]
    · exact ⟨fun p q => key g (lt1 _ _ g o ((h.byt j c).1.after hb) p q) ((h.sep j c g o).1 p q), fun p q => key g (lt1 _ _ g o ((h.byt j c).2.after hb) p q) ((h.sep j c g o).2 p q)⟩
    · exact ⟨fun p q => key g (lt1 _ _ g o h1 p q) (fun e => by have := hlow g e; have := n1 g o q; omega), fun p q => key g (lt1 _ _ g o h2 p q) (fun e => by have := hlow g e; have := n2 g o q; omega)⟩
def itL (L : List Itm) : List It := L.map fun x => (x.k, x.v)
theorem itL_at {L : List Itm} {k : Nat} : iAt (itL L) k = ((xAt L k).k, (xAt L k).v) := by
  unfold iAt itL xAt
  rw [List.getD_eq_getElem?_getD, List.getD_eq_getElem?_getD, List.getElem?_map]
  cases L[k]? <;> rfl
theorem ItR.items {base n c : Nat} {w : World} {A : Option Addr} {L : List Itm} (h : ItR base w (.slice A n c) L) : n = L.length ∧ ItemS w A (itL L) := by
  have hn : n = L.length := by
    obtain ⟨A2, c2, e, _, _⟩ := own_slice h.row
    injection e
  refine ⟨hn, fun hl => ?_⟩
  rw [itL, List.length_map] at hl
  subst hn
  obtain ⟨g, rfl, _, hg⟩ := own_addr h.row hl
  refine ⟨g, 0, rfl, hg, fun k hk => ?_⟩
  rw [itL, List.length_map] at hk
  have hc : ∀ r, r < 2 → w.cell? ⟨g, k * 2 + r, none⟩ = (cI (xAt L k))[r]? := fun r hr => by rw [h.row.cellAt _ (by omega), iC_at _ k r hk hr]
  rw [itL_at, Nat.zero_add]
  exact ⟨_, _, _, _, hc 0 (by omega), hc 1 (by omega), (h.byt k hk).1, (h.byt k hk).2⟩

end Go.Proofs.Ytnnmcfklmmpdaaa


/-
  Layer 9, the program's order of items: bytes.Compare, by keys.
  Conditions: none.
-/
namespace Go.Proofs.Ytnnmcfklmmpdaaa
open Go.RowKit
set_option maxRecDepth 100000
set_option linter.unusedVariables false
set_option linter.unusedSimpArgs false

theorem run_bytesOf {w : World} {A : Option Addr} {b : List Int} (h : BytS w A b) (c : Nat) : (Extern.Bytes.bytesOf (.slice A b.length c)).run Try.prog w = .ok ⟨(Lib.bytesOf b).toArray⟩ w := by
  by_cases hb : 0 < b.length
  · obtain ⟨g, o, rfl, hg, hc⟩ := h hb
    have hl := Lib.run_loadBytesX (P := Try.prog) w b ⟨g, o, none⟩ .empty (fun j x hj => by
      have hadd : (⟨g, o, none⟩ : Addr).add j = ⟨g, o + j, none⟩ := by unfold Addr.add; split <;> simp_all
      obtain ⟨hj1, hj2⟩ := List.getElem?_eq_some_iff.1 hj
      rw [hadd, hc j hj1]
      unfold bAt
      rw [List.getD_eq_getElem?_getD, hj]
      rfl)
    refine Eq.trans (b := (Extern.Bytes.loadBytes ⟨g, o, none⟩ b.length .empty).run Try.prog w) rfl ?_
    rw [hl]
    simp
  · have e : b = [] := List.eq_nil_of_length_eq_zero (by omega)
    subst e
    cases A <;> rfl
def cmpK (a b : List Int) : Int := Lib.compareBytes (Lib.bytesOf a) (Lib.bytesOf b)
theorem cmp_run {w : World} {A B : Option Addr} {a b : List Int} (ha : BytS w A a) (hb : BytS w B b) (c d : Nat) :
    (callFunc 61 #[.slice A a.length c, .slice B b.length d]).run Try.prog w = .ok (.value (.int .i64 (cmpK a b))) w := by
  rw [run_callFunc_extern Try.func61 (by kernel_rfl) (by kernel_rfl) (by kernel_rfl) (e := Extern.BytealgCompare.compare) (by kernel_rfl)]
  have h1 := run_bytesOf ha c
  have h2 := run_bytesOf hb d
  have e : (Extern.BytealgCompare.compare #[.slice A a.length c, .slice B b.length d]).run Try.prog w = .ok (.int .i64 (cmpK a b)) w := by
    change Sem.run Try.prog (do pure (goInt (Extern.BytealgCompare.cmp (← Extern.Bytes.bytesOf (.slice A a.length c)) (← Extern.Bytes.bytesOf (.slice B b.length d))))) w = _
    simp only [Sem.run_bind, Sem.run_pure, Result.andThen, h1, h2]
    rw [Lib.cmp_eq]
    rfl
  rw [e]
  rfl
theorem cmp_less {a b : List Int} (ha : OkB a) (hb : OkB b) : (cmpK a b < 0 ↔ kLt a b = true) := by
  unfold cmpK
  induction a generalizing b with
  | nil => cases b <;> simp [Lib.bytesOf, Lib.compareBytes, kLt]
  | cons x a ih =>
    cases b with
    | nil => simp [Lib.bytesOf, Lib.compareBytes, kLt]
    | cons y b =>
      obtain ⟨h1, h2⟩ := okB_cons ha
      obtain ⟨k1, k2⟩ := okB_cons hb
      have i := ih h2 k2
      have lt : ∀ p q : Int, 0 ≤ p → p ≤ 255 → 0 ≤ q → q ≤ 255 → (UInt8.ofNat p.toNat < UInt8.ofNat q.toNat ↔ p < q) := fun p q _ _ _ _ => by
        rw [UInt8.lt_iff_toNat_lt, UInt8.toNat_ofNat', UInt8.toNat_ofNat']; omega
      have e1 := lt x y h1.1 h1.2 k1.1 k1.2
      have e2 := lt y x k1.1 k1.2 h1.1 h1.2
      simp only [Lib.bytesOf, List.map_cons, Lib.compareBytes, kLt] at i ⊢
      by_cases c1 : x < y
      · rw [if_pos (e1.2 c1)]
        simp [c1]
      · rw [if_neg (fun c => c1 (e1.1 c))]
        by_cases c2 : y < x
        · rw [if_pos (e2.2 c2)]
          have : ¬ x = y := by omega
          simp [c1, this]
        · rw [if_neg (fun c => c2 (e2.1 c))]
          have : x = y := by omega
          simp only [this, beq_self_eq_true, Bool.true_and, Bool.or_eq_true, decide_eq_true_eq]
          rw [i]
          simp

set_option maxHeartbeats 1000000 in
theorem q9_Compare {w : World} {A B : Option Addr} {a b : List Int} (ha : BytS w A a) (hb : BytS w B b) (c d : Nat) :
    Calls Try.prog 41 #[.slice A a.length c, .slice B b.length d] w fun e w' => e = .returned (.int .i64 (cmpK a b)) ∧ w' = w := by
  have H := cmp_run ha hb c d
  clear ha hb
  generalize a.length = n at *
  generalize b.length = m at *
  generalize cmpK a b = r at *
  go_enter Try.func41, Try.ntmps41
  go_wp2_with (simp only [H])
  go_ret
  exact ⟨rfl, rfl⟩

set_option maxHeartbeats 1000000 in
theorem q9_order (x y : Itm) (W : World) (hx : BytS W x.a x.k) (hy : BytS W y.a y.k) :
    Calls Try.prog 40 #[.agg (cI x).toArray, .agg (cI y).toArray] W fun e w' => e = .returned (.int .i64 (cmpK x.k y.k)) ∧ ∃ q os', w' = Go.Sort.grow (W.drewN q) os' := by
  obtain ⟨xk, xv, xa, xc, xb, xd⟩ := x
  obtain ⟨yk, yv, ya, yc, yb, yd⟩ := y
  dsimp only at *
  have hx2 : BytS ((W.alloc (.cells #[.slice xa xk.length xc, .slice xb xv.length xd] 60)).alloc (.cells #[.slice ya yk.length yc, .slice yb yv.length yd] 60)) xa xk := hx.after (below_alloc (below_alloc (Below.refl _ _) _) _)
  have hy2 : BytS ((W.alloc (.cells #[.slice xa xk.length xc, .slice xb xv.length xd] 60)).alloc (.cells #[.slice ya yk.length yc, .slice yb yv.length yd] 60)) ya yk := hy.after (below_alloc (below_alloc (Below.refl _ _) _) _)
  have HC := Lib.hid (q9_Compare hx2 hy2 xc yc)
  show Calls Try.prog 40 #[.agg #[.slice xa xk.length xc, .slice xb xv.length xd], .agg #[.slice ya yk.length yc, .slice yb yv.length yd]] W _
  clear hx hy hx2 hy2
  generalize xk.length = n1 at *
  generalize xv.length = n2 at *
  generalize yk.length = n3 at *
  generalize yv.length = n4 at *
  generalize cmpK xk yk = r at *
  go_enter Try.func40, Try.ntmps40
  go_wp2_with fail
  refine (HC.out).mono ?_
  rintro e w1 ⟨rfl, rfl⟩
  go_wp2_with fail
  go_ret
  exact ⟨rfl, 0, _, by rw [Go.Sort.alloc_eq_grow, Go.Sort.alloc_eq_grow, Go.Sort.grow_grow]; rfl⟩

end Go.Proofs.Ytnnmcfklmmpdaaa


/-
  Layer 9, items, sorted by keys: slices.SortFunc with the program's order.
  Conditions: the items' bytes lie apart from their row.
-/
namespace Go.Proofs.Ytnnmcfklmmpdaaa
open Go.RowKit
open Go.Shelf (Ren)
set_option maxRecDepth 100000
set_option linter.unusedVariables false
set_option linter.unusedSimpArgs false

set_option maxHeartbeats 2000000 in
theorem ins_none (p : Option Addr) (cap : Nat) (fv : Value) (w : World) : Calls Try.prog 63 #[.slice p 0 cap, .int .i64 0, .int .i64 0, fv] w fun e w' => e = .returned (.tuple #[]) ∧ w' = w := by
  go_enter Try.func63, Try.ntmps63
  go_wp2_with fail
  refine wp_loop_rounds 1 ?_
  rw [rounds_succ]
  go_wp2_with fail
  go_end0
  exact ⟨rfl, rfl⟩
set_option maxHeartbeats 2000000 in
theorem pdq_none (p : Option Addr) (cap : Nat) (lim : Int) (fv : Value) (w : World) : Calls Try.prog 59 #[.slice p 0 cap, .int .i64 0, .int .i64 0, .int .i64 lim, fv] w fun e w' => e = .returned (.tuple #[]) ∧ w' = w := by
  have hi := Lib.hid (ins_none p cap fv w)
  go_enter Try.func59, Try.ntmps59
  go_wp2_with fail
  refine wp_loop_rounds 1 ?_
  rw [rounds_succ]
  go_wp2_with fail
  refine (hi.out).mono ?_
  rintro e w1 ⟨rfl, rfl⟩
  go_wp2_with fail
  (try simp only [Exit.inBlock, Exit.then]); refine bodyPost_ret (results_none rfl _ _ _) rfl ?_
  exact ⟨rfl, rfl⟩
set_option maxHeartbeats 2000000 in
theorem sort_none (p : Option Addr) (cap : Nat) (fv : Value) (w : World) : Calls Try.prog 39 #[.slice p 0 cap, fv] w fun e w' => e = .returned (.tuple #[]) ∧ w' = w := by
  have hp := Lib.hid fun lim => pdq_none p cap lim fv w
  have hl : Hid (Calls Try.prog 60 #[.int .u64 0] w fun e w' => e = .returned (.int .i64 ((Lib.bitLen 0 : Nat) : Int)) ∧ w' = w) := Lib.hid (by
    have h := Go.Proofs.Any.bits_Len (Go.Proofs.SlLaysF0.n15.bits (P := Try.prog) (ρ := Go.Proofs.Try.sortItem_ren) { Go.Proofs.Try.sortItem with }) 0 w (by omega) (by omega)
    exact h)
  go_enter Try.func39, Try.ntmps39
  go_wp2_with fail
  refine (hl.out).mono ?_
  rintro e w1 ⟨rfl, rfl⟩
  go_wp2_with fail
  refine (hp.out _).mono ?_
  rintro e w2 ⟨rfl, rfl⟩
  go_wp2_with fail
  go_end0
  exact ⟨rfl, rfl⟩

open Go.Sort (putCells flatK HoldsK grow SWO PermIn SortedIn)
/-- Items whose keys lie apart from a block. -/
def GoodI (w : World) (g : Nat) (x : Itm) : Prop := OkB x.k ∧ BytS w x.a x.k ∧ ∀ g' o, 0 < x.k.length → x.a = some ⟨g', o, none⟩ → g' ≠ g
instance (w : World) (g : Nat) : Inhabited {x : Itm // GoodI w g x} := ⟨⟨Itm.zero, fun k h => absurd h (by simp [Itm.zero]), BytS.none_ _ _, fun g' o h => absurd h (by simp [Itm.zero])⟩⟩
def encI {w : World} {g : Nat} (x : {x : Itm // GoodI w g x}) : List Value := cI x.1
def cmpI {w : World} {g : Nat} (x y : {x : Itm // GoodI w g x}) : Int := cmpK x.1.k y.1.k
theorem sortHeap {α : Type} [Inhabited α] (enc : α → List Value) (w : World) (g m : Nat) (dk : Array α) (os : Array Obj) {b : Nat} (hb : b ≠ g) (hl : b < w.heap.size) : (sortWorldK enc 2 w g 0 m dk os).heap[b]? = w.heap[b]? := by
  unfold sortWorldK
  rw [Go.Sort.heap_grow_old _ _ (by rw [Go.Sort.size_putRowK]; exact hl)]
  unfold Go.Sort.putRowK Go.Sort.putRow Go.Sort.mapBlock Go.Sort.ahead
  simp only [Array.getElem?_modify]
  rw [if_neg (fun e => hb e.symm)]
theorem swoI (w : World) (g : Nat) : SWO (Go.Proofs.ltOf (α := {x : Itm // GoodI w g x}) cmpI) where
  irrefl x := by
    unfold Go.Proofs.ltOf cmpI
    have := cmp_less x.2.1 x.2.1
    rw [kLt_irrefl] at this
    simpa using this
  trans x y z h1 h2 := by
    unfold Go.Proofs.ltOf cmpI at *
    rw [decide_eq_true_eq, cmp_less x.2.1 y.2.1] at h1
    rw [decide_eq_true_eq, cmp_less y.2.1 z.2.1] at h2
    rw [decide_eq_true_eq, cmp_less x.2.1 z.2.1]
    exact kLt_trans h1 h2
  ntrans x y z h1 h2 := by
    unfold Go.Proofs.ltOf cmpI at *
    rw [decide_eq_false_iff_not, cmp_less x.2.1 y.2.1] at h1
    rw [decide_eq_false_iff_not, cmp_less y.2.1 z.2.1] at h2
    rw [decide_eq_false_iff_not, cmp_less x.2.1 z.2.1]
    intro h
    by_cases e : x.1.k = y.1.k
    · rw [e] at h; exact h2 h
    · have h3 := kLt_total (by simpa using h1) e
      exact h2 (kLt_trans h3 h)

set_option maxHeartbeats 4000000 in
theorem sort_items (w : World) (base : Nat) (A : Option Addr) (n c : Nat) (X : List Itm) (h : ItR base w (.slice A n c) X) (hok : ∀ x ∈ X, OkB x.k) (hn : X.length ≤ 100000) :
    Calls Try.prog 39 #[.slice A n c, .func (.func 40) #[] #[]] w (fun e w' => e = .returned (.tuple #[]) ∧ ∃ X' : List Itm, X'.Perm X ∧ (∀ i j, i < j → j < X'.length → kLt (xAt X' j).k (xAt X' i).k = false) ∧ ItR base w' (.slice A n c) X' ∧ Below base w w') := by
  obtain ⟨hlen, hcase⟩ := h.row
  have hnX : n = X.length := h.items.1
  rcases hcase with ⟨e, hz⟩ | ⟨g, cap, cur, e, hbg, hgg, hnc, hcm, hcs, htk⟩
  · cases e
    have hX : X = [] := List.eq_nil_of_length_eq_zero hz
    subst hX
    refine (sort_none none 0 _ w).mono ?_
    rintro e w' ⟨rfl, rfl⟩
    exact ⟨rfl, [], List.Perm.refl _, fun i j _ hj => absurd hj (by simp), h, Below.refl _ _⟩
  · cases e
    have hX : ∀ x ∈ X, GoodI w g x := fun x hx => by
      obtain ⟨j, hj, rfl⟩ := List.mem_iff_getElem.mp hx
      have hxa : xAt X j = X[j] := by unfold xAt; rw [List.getD_eq_getElem?_getD, List.getElem?_eq_getElem hj]; rfl
      have h1 := h.byt j hj
      have h2 := h.sep j hj
      rw [hxa] at h1 h2
      exact ⟨hok _ hx, h1.1, fun g' o hp ea e => (h2 g' o).1 hp ea (by rw [e]; rfl)⟩
    have hgl : g < w.heap.size := (Array.getElem?_eq_some_iff.1 hgg).1
    have hdv : (X.attachWith _ hX).map (·.1) = X := List.attachWith_map_subtype_val hX
    generalize hd : (X.attachWith _ hX).toArray = d
    have hdl : d.toList = X.attachWith _ hX := by rw [← hd]
    have hds : d.size = X.length := by rw [← hd]; simp
    have hat : ∀ (D : Array {x : Itm // GoodI w g x}) (j : Nat), j < D.size → (D[j]!).1 = xAt (D.toList.map (·.1)) j := fun D j hj => by
      unfold xAt
      rw [List.getD_eq_getElem?_getD, List.getElem?_map, Array.getElem?_toList, Array.getElem?_eq_getElem hj, getElem!_pos D j hj]
      rfl
    have hcur : ∀ t, t < X.length * 2 → cur[t]? = (cI (xAt X (t / 2)))[t % 2]? := fun t ht => by
      have h1 : (cur.toList.take (X.length * 2))[t]? = cur[t]? := by rw [List.getElem?_take, if_pos ht, Array.getElem?_toList]
      rw [← h1, htk]
      have := iC_at X (t / 2) (t % 2) (by omega) (by omega)
      rw [show t / 2 * 2 + t % 2 = t by omega] at this
      exact this
    have hH : HoldsK encI 2 w g 0 d := fun t ht => by
      rw [Go.Sort.size_flatK, hds] at ht
      rw [Go.Sort.get_flatK _ _ _ _ (by rw [hds]; exact ht), Nat.zero_add]
      refine ⟨?_, ?_⟩
      · rw [cell_of_row w g t cur _ (0, 0) hgg, hcur t ht]
        have hx := hat d (t / 2) (by rw [hds]; omega)
        rw [hdl, hdv] at hx
        show (cI (xAt X (t / 2)))[t % 2]? = some ((cI (d[t / 2]!).1)[t % 2]!)
        rw [hx]
        have : t % 2 = 0 ∨ t % 2 = 1 := by omega
        rcases this with e | e <;> rw [e] <;> rfl
      · exact (show Blk g cur 60 w from hgg).free t
    have eg : ∀ args w, (callFunc 40 args).run Try.prog w = .ok (.enter 40 args) w := enters_of Try.func40 (by kernel_rfl) rfl
    have hcmp : Go.Proofs.CmpLays Try.prog 40 #[] (encI (w := w) (g := g)) 2 cmpI g 0 d.size w := fun m os dk hdk x y => by
      have keep : ∀ z : {x : Itm // GoodI w g x}, BytS (sortWorldK encI 2 w g 0 m dk os) z.1.a z.1.k := fun z => by
        refine bytS_keep z.2.2.1 (Go.Proofs.size_sortWorldK_c encI 2 w g 0 m dk os) fun g' o hp e hl => ?_
        exact sortHeap encI w g m dk os (z.2.2.2 g' o hp e) hl
      exact q9_order x.1 y.1 _ (keep x) (keep y)
    have hcon := Go.Proofs.AnyQ.slices_SortFunc Go.Proofs.Try.sortItem 2 Try.isAgg60 Try.sizeOf60 (encI (w := w) (g := g)) (fun _ => rfl) (fun x v hv => by exact cI_one x.1 v hv) cmpI (swoI w g) 40 #[] g 0 c d w eg hcmp hH hgl (by rw [hds]; omega)
    rw [hds] at hcon
    rw [hnX]
    refine Calls.mono (show Calls Try.prog 39 _ _ _ from hcon) ?_
    rintro e w' ⟨rfl, d', m, os, hp, hs, rfl⟩
    obtain ⟨hp1, -, hp3⟩ := hp
    rw [hds] at hp1
    have full : ∀ D : Array {x : Itm // GoodI w g x}, D.size = X.length → D.extract 0 X.length = D := fun D hD => by
      apply Array.ext
      · simp [hD]
      · intro i h1 h2; simp
    rw [full d' hp1, full d hds] at hp3
    refine ⟨rfl, d'.toList.map (·.1), ?_, ?_, ?_, ?_⟩
    · have := hp3.map (·.1)
      rw [hdl, hdv] at this
      exact this
    · intro i j hij hj
      rw [List.length_map, Array.length_toList, hp1] at hj
      have h1 := hs i j (Nat.zero_le _) hij hj
      unfold Go.Proofs.ltOf cmpI at h1
      rw [decide_eq_false_iff_not, cmp_less (d'[j]!).2.1 (d'[i]!).2.1, hat d' j (by omega), hat d' i (by omega)] at h1
      simpa using h1
    · have hsz := Go.Proofs.size_sortWorldK_c encI 2 w g 0 m d' os
      have hblk : (sortWorldK encI 2 w g 0 m d' os).heap[g]? = some (.cells (putCells id 0 (flatK encI 2 d') cur) 60 (0, 0)) := by
        unfold sortWorldK
        rw [Go.Sort.heap_grow_old _ _ (by rw [Go.Sort.size_putRowK]; exact hgl)]
        unfold Go.Sort.putRowK Go.Sort.putRow Go.Sort.mapBlock Go.Sort.ahead
        simp only [Array.getElem?_modify, hgg, if_true, Option.map_some, Go.Sort.onCells]
      have hmem : ∀ j, j < (d'.toList.map (·.1)).length → ∃ t, t < X.length ∧ xAt (d'.toList.map (·.1)) j = xAt X t := fun j hj => by
        have hm := (hp3.map (·.1)).mem_iff (a := xAt (d'.toList.map (·.1)) j)
        rw [hdl, hdv] at hm
        have h1 : xAt (d'.toList.map (·.1)) j ∈ d'.toList.map (·.1) := by
          unfold xAt
          rw [List.getD_eq_getElem?_getD, List.getElem?_eq_getElem hj]
          exact List.getElem_mem hj
        obtain ⟨t, ht, e⟩ := List.mem_iff_getElem.mp (hm.mp h1)
        refine ⟨t, ht, ?_⟩
        rw [← e]
        unfold xAt
        rw [List.getD_eq_getElem?_getD (l := X), List.getElem?_eq_getElem ht]
        rfl
      have hkeep : ∀ (B : Option Addr) (b : List Int), BytS w B b → (∀ g' o, 0 < b.length → B = some ⟨g', o, none⟩ → g' ≠ g) → BytS (sortWorldK encI 2 w g 0 m d' os) B b := fun B b hb hs => bytS_keep hb hsz fun g' o hp e hl => sortHeap encI w g m d' os (hs g' o hp e) hl
      have hl' : (d'.toList.map (·.1)).length = X.length := by rw [List.length_map, Array.length_toList, hp1]
      refine ⟨⟨by rw [iC_len], .inr ⟨g, c, _, by rw [hl'], hbg, hblk, by rw [hl', ← hnX]; exact hnc, hcm, by unfold putCells; simp [hcs], ?_⟩⟩, fun j hj => ?_, fun j hj g' o => ?_, fun j hj g' o => ?_⟩
      · apply List.ext_getElem?
        intro t
        by_cases ht : t < X.length * 2
        · rw [hl', List.getElem?_take, if_pos ht, Array.getElem?_toList]
          have h3 := iC_at (d'.toList.map (·.1)) (t / 2) (t % 2) (by rw [hl']; omega) (by omega)
          rw [show t / 2 * 2 + t % 2 = t by omega] at h3
          rw [h3]
          unfold putCells
          rw [Array.getElem?_mapIdx, hcur t ht]
          have hx := hat d' (t / 2) (by rw [hp1]; omega)
          have hc : (0 ≤ t ∧ t < 0 + (flatK encI 2 d').size) := by rw [Go.Sort.size_flatK, hp1]; omega
          have : t % 2 = 0 ∨ t % 2 = 1 := by omega
          rcases this with e | e <;> rw [e] <;>
          (simp only [cI, List.getElem?_cons_zero, List.getElem?_cons_succ, Option.map_some, id]
           rw [if_pos hc, Nat.sub_zero, Go.Sort.get_flatK _ _ _ _ (by rw [hp1]; exact ht), e]
           show some ((cI (d'[t / 2]!).1)[_]!) = _
           rw [hx]
           rfl)
        · rw [List.getElem?_eq_none (by rw [List.length_take]; omega), List.getElem?_eq_none (by rw [iC_len, hl']; omega)]
      · obtain ⟨t, ht, e⟩ := hmem j hj
        rw [e]
        exact ⟨hkeep _ _ (h.byt t ht).1 (fun g' o hp ea eg => (h.sep t ht g' o).1 hp ea (by rw [eg]; rfl)), hkeep _ _ (h.byt t ht).2 (fun g' o hp ea eg => (h.sep t ht g' o).2 hp ea (by rw [eg]; rfl))⟩
      · obtain ⟨t, ht, e⟩ := hmem j hj
        rw [e]
        exact h.low t ht g' o
      · obtain ⟨t, ht, e⟩ := hmem j hj
        rw [e]
        have := h.sep t ht g' o
        exact this
    · have hsz := Go.Proofs.size_sortWorldK_c encI 2 w g 0 m d' os
      exact ⟨rfl, rfl, rfl, hsz, fun k hk => by
        rcases Nat.lt_or_ge k w.heap.size with hl | hl
        · exact sortHeap encI w g m d' os (by omega) hl
        · omega⟩

end Go.Proofs.Ytnnmcfklmmpdaaa


/-
  Layer 9's own Items.
  Conditions: few maps.
-/
namespace Go.Proofs.Ytnnmcfklmmpdaaa
open Go.RowKit
set_option maxRecDepth 100000
set_option linter.unusedVariables false
set_option linter.unusedSimpArgs false

/-- Items are told, in a row of the call's own. -/
def ItemsW (l : List It) (w : World) (e : Ending) (w' : World) : Prop :=
  ∃ A c L, e = .returned (.slice A l.length c) ∧ itL L = l ∧ ItR w.heap.size w' (.slice A l.length c) L ∧ Below w.heap.size w w'
/-- An item of a map. -/
def itF (M : PM) (i : Int) (x : TK) : It := (x.k, (pArea M (tArea i x.s)).1)
/-- The row while it is made. -/
structure ItJ (w : World) (M : PM) (i : Int) (K : List TK) (j : Nat) (v : Value) (L : List Itm) (u : World) : Prop where
  items : itL L = (K.take j).map (itF M i)
  rep : ItR w.heap.size u v L
  below : Below w.heap.size w u
theorem ItJ.after {w u u' : World} {M : PM} {i : Int} {K : List TK} {j : Nat} {v : Value} {L : List Itm} (h : ItJ w M i K j v L u) (b : Below u.heap.size u u') : ItJ w M i K j v L u' := ⟨h.items, h.rep.after b, below_next' h.below b⟩
theorem ItJ.len {w u : World} {M : PM} {i : Int} {K : List TK} {j : Nat} {v : Value} {L : List Itm} (h : ItJ w M i K j v L u) (hj : j ≤ K.length) : L.length = j := by
  have := congrArg List.length h.items
  rw [itL, List.length_map, List.length_map, List.length_take] at this
  omega
theorem ItJ.next {w u u' : World} {M : PM} {i : Int} {K : List TK} {j : Nat} {v v' : Value} {L : List Itm} {x : Itm} (h : ItJ w M i K j v L u) (hj : j < K.length) (hx : (x.k, x.v) = itF M i (kAt K j)) (hd : ItD w.heap.size u v u' v' (L ++ [x])) : ItJ w M i K (j + 1) v' (L ++ [x]) u' := by
  refine ⟨?_, hd.rep, h.below.trans hd.below⟩
  have e : K.take (j + 1) = K.take j ++ [kAt K j] := by
    rw [List.take_add_one, List.getElem?_eq_getElem hj]
    unfold kAt
    rw [List.getD_eq_getElem?_getD, List.getElem?_eq_getElem hj]
    rfl
  rw [e, List.map_append, List.map_singleton, ← hx, ← h.items]
  simp [itL]
theorem pArea_few {w : World} {g : Nat} {M : PM} {F : Nat → Prop} (h : RepR w g M F) (i : Int) : (pArea M i).1.length ≤ 100000 := by
  have hok := h.ok
  unfold pArea
  cases hx : pIx M i with
  | none => exact Nat.zero_le _
  | some k =>
    have := (hok k (pIx_some hx).1).2.2.1
    exact Nat.le_trans this (by omega)

theorem r9_Items_no (w : World) (gt g2 : Nat) (T : TT) (M : PM) (F G : Nat → Prop) (i : Int) (h : RepB w gt g2 T M F G) (hi : ¬ (0 ≤ i ∧ i < T.length)) :
    Calls Try.prog 18 #[.pointer (some ⟨gt, 0, none⟩), .int .i64 i] w (ItemsW [] w) := by
  obtain ⟨vl, L, rfl, h'⟩ := h.maps
  obtain ⟨c0, c1⟩ := h'.cells
  obtain ⟨A, c, rfl, k1, k2⟩ := own_slice h'.row
  rw [trM_len] at hi
  clear h h' c0
  have FIN : Hid (∀ u, Below w.heap.size w u → ItemsW [] w (.returned (.slice none 0 0)) u) := Lib.hid fun u b => ⟨none, 0, [], rfl, rfl, ItR.nil _ _, b⟩
  by_cases h0 : i < 0
  · go_enter Try.func18, Try.ntmps18
    go_wp2_with fail
    go_ret
    exact FIN.out _ (by first | exact Below.refl _ _ | exact below_drewN (Below.refl _ _) _)
  · have h1 : (L.length : Int) ≤ i := by omega
    have h0' : 0 ≤ i := by omega
    go_enter Try.func18, Try.ntmps18
    go_wp2_with fail
    go_ret
    exact FIN.out _ (by first | exact Below.refl _ _ | exact below_drewN (Below.refl _ _) _)

set_option maxHeartbeats 8000000 in
theorem r9_Items_yes (w : World) (gt g2 : Nat) (L : List TR) (vl : Value) (M : PM) (F G : Nat → Prop) (k : Nat) (h : RepB w gt g2 (trM L) M F G) (h' : RepT w gt g2 vl L F) (hk : k < L.length) (hL : L.length ≤ 1000) (l : List It) (hl : (trAt L k).m.L.map (itF M k) = l) :
    Calls Try.prog 18 #[.pointer (some ⟨gt, 0, none⟩), .int .i64 (k : Int)] w (ItemsW l w) := by
  have hok := h'.ok k (by rw [trM_len]; exact hk)
  rw [trM_at] at hok
  obtain ⟨gl, c, hvl, k1, k2, -⟩ := h'.at_ hk
  obtain ⟨A, ck, hv, kk1, kk2, -⟩ := h'.keys hk
  have hfew := hok.few
  have hgood := hok.good
  have hK16 : (trAt L k).m.L.length ≤ 16 := by
    unfold Df.good at hgood
    simp only [Bool.and_eq_true, decide_eq_true_eq] at hgood
    have := hgood.2
    omega
  have HKEYS : Hid (∀ j, j < (trAt L k).m.L.length → OkB (kAt (trAt L k).m.L j).k ∧ (kAt (trAt L k).m.L j).s ≤ 1024) := Lib.hid fun j hj => ⟨(hok.keys _ (kAt_mem hj)).1, by have := (hok.keys _ (kAt_mem hj)).2.2; have := hok.made; omega⟩
  have MEM : Hid (∀ u, Below w.heap.size w u → RepR u g2 M G) := Lib.hid fun u b => h.mem.after b
  have HFEW : Hid (∀ i, (pArea M i).1.length ≤ 100000) := Lib.hid fun i => pArea_few h.mem i
  have HF : Hid (∀ u, Below w.heap.size w u → RepT u gt g2 vl L F) := Lib.hid fun u b => h'.after b
  have HV := Lib.hid hv
  have HVL := Lib.hid hvl
  have HLL := Lib.hid hl
  clear h h' hok hv hvl hfew hgood hl
  unfold maxLen at k2 kk2
  have hk' : (k : Int) < L.length := by omega
  have k0 : (0 : Int) ≤ k := by omega
  generalize hmK : (trAt L k).m.L = KY at *
  generalize hlk : KY.length = lk at *
  have HLK := Lib.hid hlk
  have CELLS : Hid (∀ u, Below w.heap.size w u → u.cell? ⟨gt, 0, none⟩ = some (.pointer (some ⟨g2, 0, none⟩)) ∧ u.cell? ⟨gt, 1, none⟩ = some (.slice (some ⟨gl, 0, none⟩) L.length c) ∧ u.cell? ⟨gl, k * 6 + 4, none⟩ = some (.slice A lk ck) ∧ (0 < lk → ∃ gk, A = some ⟨gk, 0, none⟩ ∧ ∀ j, j < lk → u.cell? ⟨gk, j * 2, none⟩ = some (.string (strOfNums (kAt KY j).k)) ∧ u.cell? ⟨gk, j * 2 + 1, none⟩ = some (.int .i64 ((kAt KY j).s : Int)))) := Lib.hid fun u b => by
    have hR := HF.out u b
    obtain ⟨c0, c1⟩ := hR.cells
    rw [HVL.out] at c1
    obtain ⟨gl', c', hv', -, -, hg, -, -, -, -, e4, -⟩ := hR.at_ hk
    rw [HVL.out] at hv'
    injection hv' with hA hl hc
    injection hA with hA
    injection hA with hA1 hA2
    subst hA1
    rw [HV.out] at e4
    obtain ⟨A', ck', hv2, -, -, hkc⟩ := hR.keys hk
    rw [HV.out, hmK, hlk] at hv2
    injection hv2 with hB1 hB2 hB3
    subst hB1
    rw [hmK, hlk] at hkc
    exact ⟨c0, c1, e4, fun hp => by
      obtain ⟨gk, e, _, hcell⟩ := hkc hp
      exact ⟨gk, e, hcell⟩⟩
  clear HF HV HVL hmK hlk
  have DONE : Hid (∀ u v LI, ItJ w M k KY lk v LI u → ItemsW l w (.returned v) u) := Lib.hid fun u v LI q => by
    have e := q.items
    rw [← HLK.out, List.take_length, HLL.out] at e
    obtain ⟨A3, c3, hv3, _, _⟩ := own_slice q.rep.row
    have hlen : LI.length = l.length := by rw [← e, itL, List.length_map]
    rw [hlen] at hv3
    subst hv3
    exact ⟨A3, c3, LI, rfl, e, q.rep, q.below⟩
  clear HLL
  go_enter Try.func18, Try.ntmps18
  obtain ⟨-, c1, -⟩ := CELLS.out w (Below.refl _ _)
  go_wp2_with fail
  clear c1
  have d1 : decide ((k : Int) < 0) = false := by simp
  have d2 : decide (L.length ≤ k) = false := by simp; omega
  simp only [d1, d2, Bool.or_false]
  clear d1 d2
  go_loopw [5, 6] (fun ov iv wr => ∃ (j : Nat) (LI : List Itm) (v : Value), v = ov ∧ iv = .int .i64 j ∧ j ≤ lk ∧ Hid (ItJ w M k KY j v LI wr)) (fun ov iv wr => lk - (intOf iv).toNat)
  case atStart => exact ⟨0, [], _, rfl, rfl, by omega, Lib.hid ⟨rfl, ItR.nil _ _, by first | exact Below.refl _ _ | exact below_drewN (Below.refl _ _) _⟩⟩
  case round =>
    obtain ⟨j, LI, ov, rfl, rfl, hj, Q⟩ := hrel
    have j0 : (0 : Int) ≤ j := by omega
    obtain ⟨c0, c1, e4, hkc⟩ := CELLS.out wr Q.out.below
    by_cases hlt : (j : Int) < lk
    · have hjn : j < lk := by omega
      obtain ⟨gk, rfl, hcell⟩ := hkc (by omega)
      obtain ⟨s0, s1⟩ := hcell j hjn
      obtain ⟨hob, hs1⟩ := HKEYS.out j hjn
      have HOKJ := Lib.hid hob
      clear hcell hkc hob c0
      have hln := Q.out.len (by rw [HLK.out]; exact hj)
      have HXE : Hid (((kAt KY j).k, (pArea M (tArea k (kAt KY j).s)).1) = itF M k (kAt KY j)) := Lib.hid rfl
      have AR : Hid (∀ u, Calls Try.prog 22 #[.int .i64 (k : Int), .int .i64 ((kAt KY j).s : Int)] u (Gives (.int .i64 (tArea k (kAt KY j).s)) u)) := Lib.hid fun u => r9_Area k (kAt KY j).s u (by omega) (by omega)
      have hnv := HFEW.out (tArea k (kAt KY j).s)
      have MEMA : Hid (∀ u, Below w.heap.size w u → _) := Lib.hid fun u b => r8_Area u g2 M G (tArea k (kAt KY j).s) (MEM.out u b)
      generalize (pArea M (tArea k (kAt KY j).s)).1 = vb at *
      generalize (pArea M (tArea k (kAt KY j).s)).2 = vok at *
      generalize tArea k (kAt KY j).s = ar at *
      generalize hnvb : vb.length = nv at *
      have HVL := Lib.hid hnvb
      clear hnvb
      generalize hkl : (kAt KY j).k.length = kl at *
      have HKL := Lib.hid hkl
      clear hkl
      have BX : Hid (Blk wr.heap.size #[.string (strOfNums (kAt KY j).k), .int .i64 ((kAt KY j).s : Int)] 88 (wr.alloc (.cells #[.string (strOfNums (kAt KY j).k), .int .i64 ((kAt KY j).s : Int)] 88))) := Lib.hid (Blk.new wr _ _ rfl)
      have GXN : Hid (ov.ownBlock ≠ some wr.heap.size) := Lib.hid fun e => by have := own_lt Q.out.rep.row e; omega
      replace Q := Lib.hid (Q.out.after (below_alloc (Below.refl _ _) (.cells #[.string (strOfNums (kAt KY j).k), .int .i64 ((kAt KY j).s : Int)] 88)))
      go_upto_region 8 with fail
      clear c1 e4 s0 s1
      generalize hgx : wr.heap.size = gx at *
      generalize hwx : wr.alloc (.cells #[.string (strOfNums (kAt KY j).k), .int .i64 ((kAt KY j).s : Int)] 88) = u at *
      clear hgx hwx
      have HS : Hid (∀ u', Below u.heap.size u u' → u'.cell? ⟨gt, 0, none⟩ = some (.pointer (some ⟨g2, 0, none⟩)) ∧ u'.cell? ⟨gx, 1, none⟩ = some (.int .i64 ((kAt KY j).s : Int))) := Lib.hid fun u' b => ⟨(CELLS.out u' (below_next' Q.out.below b)).1, (BX.out.after b).cell 1⟩
      have MA : Hid (∀ u', Below u.heap.size u u' → _) := Lib.hid fun u' b => MEMA.out u' (below_next' Q.out.below b)
      clear MEMA
      have V : Hid (Below u.heap.size u u.drew) := Lib.hid (Below.drew (Below.refl _ _))
      refine wp_region_held_drew (S := fun w' => w'.cell? ⟨gt, 0, none⟩ = some (.pointer (some ⟨g2, 0, none⟩)) ∧ w'.cell? ⟨gx, 1, none⟩ = some (.int .i64 ((kAt KY j).s : Int))) (by kernel_rfl) (HS.out _ V.out) (fun hHeld => ?_)
      refine wpAnyH_take (i := 0) (oi := { dst := some 46, op := Op.move (Operand.tmp 0), type := 35, pos := "ref.go:172", after := #[], guard := none }) (v := ?_) rfl (by kernel_rfl) (by kernel_rfl) (by kernel_rfl) (fun _ _ _ h => h) (Or.inl ⟨by rfl, ?_⟩) (by assumption) ?_
      rotate_left 1
      · intro w hSw; (try dsimp only at hSw); go_simp; try (with_reducible rfl)
      try simp only [Act.put, List.setIfInBounds_toArray, List.set_cons_zero, List.set_cons_succ]
      refine wpAnyH_take (i := 1) (oi := { dst := some 47, op := Op.nilCheck (Operand.tmp 46), type := 0, pos := "ref.go:172", after := #[{ on := 0, ground := Ground.data }], guard := none }) (v := ?_) rfl (by kernel_rfl) (by kernel_rfl) (by kernel_rfl) (fun _ _ _ h => h) (Or.inl ⟨by rfl, ?_⟩) (by assumption) ?_
      rotate_left 1
      · intro w hSw; (try dsimp only at hSw); go_simp; try (with_reducible rfl)
      try simp only [Act.put, List.setIfInBounds_toArray, List.set_cons_zero, List.set_cons_succ]
      refine wpAnyH_take (i := 2) (oi := { dst := some 48, op := Op.fieldAddr 82 (Operand.tmp 47) 0, type := 0, pos := "ref.go:172", after := #[{ on := 1, ground := Ground.data }], guard := none }) (v := ?_) rfl (by kernel_rfl) (by kernel_rfl) (by kernel_rfl) (fun _ _ _ h => h) (Or.inl ⟨by rfl, ?_⟩) (by assumption) ?_
      rotate_left 1
      · intro w hSw; (try dsimp only at hSw); go_simp; try (with_reducible rfl)
      try simp only [Act.put, List.setIfInBounds_toArray, List.set_cons_zero, List.set_cons_succ]
      refine wpAnyH_take (i := 3) (oi := { dst := some 49, op := Op.load 27 (Operand.tmp 48), type := 27, pos := "ref.go:172", after := #[{ on := 2, ground := Ground.data }], guard := none }) (v := ?_) rfl (by kernel_rfl) (by kernel_rfl) (by kernel_rfl) (fun _ _ _ h => h) (Or.inl ⟨by rfl, ?_⟩) (by assumption) ?_
      rotate_left 1
      · intro w hSw; (try dsimp only at hSw); go_simp; try (with_reducible rfl)
      try simp only [Act.put, List.setIfInBounds_toArray, List.set_cons_zero, List.set_cons_succ]
      refine wpAnyH_take (i := 4) (oi := { dst := some 50, op := Op.move (Operand.tmp 1), type := 3, pos := "ref.go:172", after := #[], guard := none }) (v := ?_) rfl (by kernel_rfl) (by kernel_rfl) (by kernel_rfl) (fun _ _ _ h => h) (Or.inl ⟨by rfl, ?_⟩) (by assumption) ?_
      rotate_left 1
      · intro w hSw; (try dsimp only at hSw); go_simp; try (with_reducible rfl)
      try simp only [Act.put, List.setIfInBounds_toArray, List.set_cons_zero, List.set_cons_succ]
      refine wpAnyH_take (i := 5) (oi := { dst := some 51, op := Op.fieldAddr 88 (Operand.tmp 7) 1, type := 0, pos := "ref.go:172", after := #[], guard := none }) (v := ?_) rfl (by kernel_rfl) (by kernel_rfl) (by kernel_rfl) (fun _ _ _ h => h) (Or.inl ⟨by rfl, ?_⟩) (by assumption) ?_
      rotate_left 1
      · intro w hSw; (try dsimp only at hSw); go_simp; try (with_reducible rfl)
      try simp only [Act.put, List.setIfInBounds_toArray, List.set_cons_zero, List.set_cons_succ]
      refine wpAnyH_take (i := 6) (oi := { dst := some 52, op := Op.load 3 (Operand.tmp 51), type := 3, pos := "ref.go:172", after := #[{ on := 5, ground := Ground.data }], guard := none }) (v := ?_) rfl (by kernel_rfl) (by kernel_rfl) (by kernel_rfl) (fun _ _ _ h => h) (Or.inl ⟨by rfl, ?_⟩) (by assumption) ?_
      rotate_left 1
      · intro w hSw; (try dsimp only at hSw); go_simp; try (with_reducible rfl)
      try simp only [Act.put, List.setIfInBounds_toArray, List.set_cons_zero, List.set_cons_succ]
      refine wpAnyH_ready (rs := [7]) (by kernel_rfl) (by simp) ?_
      refine AllReadyH.cons (o := { dst := some 53, op := Op.call { callee := Callee.value (Operand.func 22), args := #[Operand.tmp 50, Operand.tmp 52], argTypes := #[3, 3] }, type := 3, pos := "ref.go:172", after := #[{ on := 4, ground := Ground.data }, { on := 6, ground := Ground.data }], guard := none }) rfl (fun K hK => ?_) AllReadyH.nil
      · skip
        go_simp
        refine (AR.out _).mono ?_
        rintro e u1 ⟨rfl, b1⟩
        replace V := Lib.hid (below_next' V.out b1)
        clear b1
        go_wp2_with fail
        refine hK.out _ _ (HS.out _ V.out) (fun hHeld => ?_)
        clear hK K
        try simp only [Act.put, List.setIfInBounds_toArray, List.set_cons_zero, List.set_cons_succ]
        refine wpAnyH_ready (rs := [8]) (by kernel_rfl) (by simp) ?_
        refine AllReadyH.cons (o := { dst := some 54, op := Op.call { callee := Callee.value (Operand.func 21), args := #[Operand.tmp 49, Operand.tmp 53], argTypes := #[27, 3] }, type := 48, pos := "ref.go:172", after := #[{ on := 3, ground := Ground.data }, { on := 7, ground := Ground.data }, { on := 7, ground := Ground.chain }], guard := none }) rfl (fun K hK => ?_) AllReadyH.nil
        · skip
          go_simp
          refine (MA.out _ V.out).mono ?_
          rintro e wb ⟨A2, c2, rfl, hbs, hc21, hc22, b3⟩
          replace V := Lib.hid (below_next' V.out b3)
          clear b3
          go_wp2_with fail
          refine hK.out _ _ (HS.out _ V.out) (fun hHeld => ?_)
          clear hK K
          try simp only [Act.put, List.setIfInBounds_toArray, List.set_cons_zero, List.set_cons_succ]
          refine wpAnyH_take (i := 9) (oi := { dst := some 45, op := Op.move (Operand.tmp 54), type := 48, pos := "ref.go:172", after := #[{ on := 8, ground := Ground.data }], guard := none }) (v := ?_) rfl (by kernel_rfl) (by kernel_rfl) (by kernel_rfl) (fun _ _ _ h => h) (Or.inl ⟨by rfl, ?_⟩) (by assumption) ?_
          rotate_left 1
          · intro w hSw; (try dsimp only at hSw); go_simp; try (with_reducible rfl)
          try simp only [Act.put, List.setIfInBounds_toArray, List.set_cons_zero, List.set_cons_succ]
          refine wpAnyH_take (i := 10) (oi := { dst := some 55, op := Op.extract (Operand.tmp 45) 0, type := 40, pos := "ref.go:172", after := #[{ on := 9, ground := Ground.data }], guard := none }) (v := ?_) rfl (by kernel_rfl) (by kernel_rfl) (by kernel_rfl) (fun _ _ _ h => h) (Or.inl ⟨by rfl, ?_⟩) (by assumption) ?_
          rotate_left 1
          · intro w hSw; (try dsimp only at hSw); go_simp; try (with_reducible rfl)
          try simp only [Act.put, List.setIfInBounds_toArray, List.set_cons_zero, List.set_cons_succ]
          refine wpAnyH_take (i := 11) (oi := { dst := some 56, op := Op.extract (Operand.tmp 45) 1, type := 4, pos := "ref.go:172", after := #[{ on := 9, ground := Ground.data }, { on := 12, ground := Ground.gcOnly Departure.lateStores }], guard := none }) (v := ?_) rfl (by kernel_rfl) (by kernel_rfl) (by kernel_rfl) (fun _ _ _ h => h) (Or.inl ⟨by rfl, ?_⟩) (by assumption) ?_
          rotate_left 1
          · intro w hSw; (try dsimp only at hSw); go_simp; try (with_reducible rfl)
          try simp only [Act.put, List.setIfInBounds_toArray, List.set_cons_zero, List.set_cons_succ]
          refine wpAnyH_take (i := 12) (oi := { dst := some 8, op := Op.assign (Operand.tmp 55), type := 40, pos := "ref.go:172", after := #[{ on := 10, ground := Ground.data }, { on := 8, ground := Ground.chain }, { on := 0, ground := Ground.phase }, { on := 1, ground := Ground.phase }, { on := 2, ground := Ground.phase }, { on := 3, ground := Ground.phase }, { on := 4, ground := Ground.phase }, { on := 5, ground := Ground.phase }, { on := 6, ground := Ground.phase }, { on := 7, ground := Ground.phase }, { on := 8, ground := Ground.phase }, { on := 9, ground := Ground.phase }, { on := 10, ground := Ground.phase }, { on := 11, ground := Ground.textOnly Departure.lateStores }], guard := none }) (v := ?_) rfl (by kernel_rfl) (by kernel_rfl) (by kernel_rfl) (fun _ _ _ h => h) (Or.inl ⟨by rfl, ?_⟩) (by assumption) ?_
          rotate_left 1
          · intro w hSw; (try dsimp only at hSw); go_simp; try (with_reducible rfl)
          try simp only [Act.put, List.setIfInBounds_toArray, List.set_cons_zero, List.set_cons_succ]
          refine wpAnyH_take (i := 13) (oi := { dst := some 9, op := Op.assign (Operand.tmp 56), type := 4, pos := "ref.go:172", after := #[{ on := 11, ground := Ground.data }, { on := 12, ground := Ground.chain }, { on := 0, ground := Ground.phase }, { on := 1, ground := Ground.phase }, { on := 2, ground := Ground.phase }, { on := 3, ground := Ground.phase }, { on := 4, ground := Ground.phase }, { on := 5, ground := Ground.phase }, { on := 6, ground := Ground.phase }, { on := 7, ground := Ground.phase }, { on := 8, ground := Ground.phase }, { on := 9, ground := Ground.phase }, { on := 10, ground := Ground.phase }, { on := 11, ground := Ground.phase }, { on := 12, ground := Ground.phase }], guard := none }) (v := ?_) rfl (by kernel_rfl) (by kernel_rfl) (by kernel_rfl) (fun _ _ _ h => h) (Or.inl ⟨by rfl, ?_⟩) (by assumption) ?_
          rotate_left 1
          · intro w hSw; (try dsimp only at hSw); go_simp; try (with_reducible rfl)
          try simp only [Act.put, List.setIfInBounds_toArray, List.set_cons_zero, List.set_cons_succ]
          refine wpAnyH_done (by kernel_rfl) ?_ _
          clear hHeld HS AR MA
          go_upto_region 9 with fail
          replace Q := Lib.hid (Q.out.after V.out)
          have BX2 := Lib.hid (BX.out.after V.out)
          have GXL : Hid (gx < wb.heap.size) := Lib.hid BX2.out.lt
          have HS : Hid (∀ u' : World, u'.heap[gx]? = wb.heap[gx]? → u'.cell? ⟨gx, 0, none⟩ = some (.string (strOfNums (kAt KY j).k))) := Lib.hid fun u' e => (Blk.same BX2.out e).cell 0
          have VBS : Hid (∀ u', Below wb.heap.size wb u' → BytS u' A2 vb) := Lib.hid fun u' b => hbs.after b
          clear V BX BX2 hbs
          have BW : Below wb.heap.size wb wb.drew := Below.drew (Below.refl _ _)
          refine wp_region_held_drew (S := fun w' => w'.cell? ⟨gx, 0, none⟩ = some (.string (strOfNums (kAt KY j).k))) (by kernel_rfl) (HS.out _ rfl) (fun hHeld => ?_)
          refine wpAnyH_take (i := 0) (oi := { dst := some 57, op := Op.move (Operand.tmp 5), type := 46, pos := "ref.go:173", after := #[], guard := none }) (v := ?_) rfl (by kernel_rfl) (by kernel_rfl) (by kernel_rfl) (fun _ _ _ h => h) (Or.inl ⟨by rfl, ?_⟩) (by assumption) ?_
          rotate_left 1
          · intro w hSw; (try dsimp only at hSw); go_simp; try (with_reducible rfl)
          try simp only [Act.put, List.setIfInBounds_toArray, List.set_cons_zero, List.set_cons_succ]
          refine wpAnyH_take (i := 1) (oi := { dst := some 58, op := Op.fieldAddr 88 (Operand.tmp 7) 0, type := 0, pos := "ref.go:173", after := #[], guard := none }) (v := ?_) rfl (by kernel_rfl) (by kernel_rfl) (by kernel_rfl) (fun _ _ _ h => h) (Or.inl ⟨by rfl, ?_⟩) (by assumption) ?_
          rotate_left 1
          · intro w hSw; (try dsimp only at hSw); go_simp; try (with_reducible rfl)
          try simp only [Act.put, List.setIfInBounds_toArray, List.set_cons_zero, List.set_cons_succ]
          refine wpAnyH_take (i := 2) (oi := { dst := some 59, op := Op.load 9 (Operand.tmp 58), type := 9, pos := "ref.go:173", after := #[{ on := 1, ground := Ground.data }], guard := none }) (v := ?_) rfl (by kernel_rfl) (by kernel_rfl) (by kernel_rfl) (fun _ _ _ h => h) (Or.inl ⟨by rfl, ?_⟩) (by assumption) ?_
          rotate_left 1
          · intro w hSw; (try dsimp only at hSw); go_simp; try (with_reducible rfl)
          try simp only [Act.put, List.setIfInBounds_toArray, List.set_cons_zero, List.set_cons_succ]
          refine wpAnyH_take (i := 5) (oi := { dst := some 62, op := Op.move (Operand.tmp 8), type := 40, pos := "ref.go:173", after := #[], guard := none }) (v := ?_) rfl (by kernel_rfl) (by kernel_rfl) (by kernel_rfl) (fun _ _ _ h => h) (Or.inl ⟨by rfl, ?_⟩) (by assumption) ?_
          rotate_left 1
          · intro w hSw; (try dsimp only at hSw); go_simp; try (with_reducible rfl)
          try simp only [Act.put, List.setIfInBounds_toArray, List.set_cons_zero, List.set_cons_succ]
          refine wpAnyH_ready (rs := [3, 4]) (by kernel_rfl) (by simp) ?_
          refine AllReadyH.cons (o := { dst := some 60, op := Op.convert 9 40 (Operand.tmp 59), type := 40, pos := "ref.go:173", after := #[{ on := 2, ground := Ground.data }], guard := none }) rfl (fun K hK => ?_) (AllReadyH.cons (o := { dst := some 61, op := Op.buildSlice 40 0 #[], type := 40, pos := "ref.go:173", after := #[], guard := none }) rfl (fun K hK => ?_) AllReadyH.nil)
          · skip
            obtain ⟨ck, wC, hrC, hkC, hbC⟩ := conv_bytes wb.drew (kAt KY j).k HOKJ.out
            have gkE : wb.drew.heap.size = wb.heap.size := by simp
            rw [gkE] at hrC hkC
            obtain ⟨gk, hgk⟩ : ∃ gk, gk = wb.heap.size := ⟨_, rfl⟩
            rw [← hgk] at hrC hkC
            rw [HKL.out] at hrC
            have BZ := below_next' BW hbC
            have GK : wb.heap.size ≤ gk ∧ gk < wC.heap.size := ⟨by have := BW.size; rw [hgk, ← gkE]; exact this, by have := hkC.2; omega⟩
            have KB := hkC.1
            have HGK := Lib.hid hgk
            clear hgk gkE
            go_simp
            clear BW hbC hkC HGK
            have BW := BZ
            clear BZ
            refine hK.out _ _ (HS.out _ (BW.block _ GXL.out)) (fun hHeld => ?_)
            clear hK K
            try simp only [Act.put, List.setIfInBounds_toArray, List.set_cons_zero, List.set_cons_succ]
            refine wpAnyH_ready (rs := [4]) (by kernel_rfl) (by simp) ?_
            refine AllReadyH.cons (o := { dst := some 61, op := Op.buildSlice 40 0 #[], type := 40, pos := "ref.go:173", after := #[], guard := none }) rfl (fun K hK => ?_) AllReadyH.nil
            · skip
              obtain ⟨b1, hb1⟩ : ∃ b1, b1 = wC.heap.size := ⟨_, rfl⟩
              have OW : (wC.alloc (.cells #[] 5)).ownsRow wb.heap.size 5 1 (.slice (some ⟨b1, 0, none⟩) 0 0) 0 [] := by have q := World.ownsRow_made (base := wb.heap.size) (e := 5) (size := 1) wC #[] 0 (by have := BW.size; exact this) (Nat.zero_le _) rfl; rw [hb1]; exact own_same q (fun _ _ => rfl)
              have BZ : Below wb.heap.size wb (wC.alloc (.cells #[] 5)) := below_alloc BW _
              have KZ := KB.after (below_alloc (Below.refl _ _) (.cells #[] 5))
              have NB : gk ≠ b1 := by have := GK.2; omega
              go_simp
              clear BW
              have BW := BZ
              clear BZ
              clear KB
              have KB := KZ
              clear KZ
              rw [← hb1]
              have HB1 := Lib.hid hb1
              clear hb1
              refine hK.out _ _ (HS.out _ (BW.block _ GXL.out)) (fun hHeld => ?_)
              clear hK K
              try simp only [Act.put, List.setIfInBounds_toArray, List.set_cons_zero, List.set_cons_succ]
              refine wpAnyH_ready (rs := [6]) (by kernel_rfl) (by simp) ?_
              refine AllReadyH.cons (o := { dst := some 63, op := Op.call { callee := Callee.builtin Builtin.append, args := #[Operand.tmp 61, Operand.tmp 62], argTypes := #[40, 40] }, type := 40, pos := "ref.go:173", after := #[{ on := 4, ground := Ground.data }, { on := 5, ground := Ground.data }], guard := none }) rfl (fun K hK => ?_) AllReadyH.nil
              · skip
                obtain ⟨v3, wA, hrA, hoA, hgA⟩ := copy_bytes (wC.alloc (.cells #[] 5)) wb.heap.size b1 A2 nv c2 vb 40 OW (VBS.out (wC.alloc (.cells #[] 5)) BW) HVL.out.symm (by omega) BW.size
                obtain ⟨A3, c3, rfl, _, _⟩ := own_slice hoA
                have BZ : Below wb.heap.size wb wA := below_own BW OW BW.size hgA
                have VB : BytS wA A3 vb := own_bytS HVL.out.symm hoA
                have NV : ∀ g o, A3 = some ⟨g, o, none⟩ → wb.heap.size ≤ g := fun g o e => (hoA.lt g (by rw [e]; rfl)).1
                have KZ := bytS_grown KB (show gk < _ from by simp; omega) hgA (fun e => NB (by cases e; rfl))
                have GKZ : wb.heap.size ≤ gk ∧ gk < wA.heap.size := ⟨GK.1, by have := GK.2; have := hgA.size; (try simp at this); omega⟩
                refine step_append_run rfl (.tmp 61) (.tmp 62) _ _ rfl _ _ rfl rfl _ _ hrA ?_
                clear BW OW hoA hgA
                have BW := BZ
                clear BZ
                clear KB GK
                have KB := KZ
                have GK := GKZ
                clear KZ GKZ
                refine hK.out _ _ (HS.out _ (BW.block _ GXL.out)) (fun hHeld => ?_)
                clear hK K
                try simp only [Act.put, List.setIfInBounds_toArray, List.set_cons_zero, List.set_cons_succ]
                refine wpAnyH_take (i := 7) (oi := { dst := some 64, op := Op.build 60 #[(0, Operand.tmp 60), (1, Operand.tmp 63)], type := 60, pos := "ref.go:173", after := #[{ on := 3, ground := Ground.data }, { on := 6, ground := Ground.data }], guard := none }) (v := ?_) rfl (by kernel_rfl) (by kernel_rfl) (by kernel_rfl) (fun _ _ _ h => h) (Or.inl ⟨by rfl, ?_⟩) (by assumption) ?_
                rotate_left 1
                · intro w hSw; (try dsimp only at hSw); go_simp; try (with_reducible rfl)
                try simp only [Act.put, List.setIfInBounds_toArray, List.set_cons_zero, List.set_cons_succ]
                refine wpAnyH_ready (rs := [8]) (by kernel_rfl) (by simp) ?_
                refine AllReadyH.cons (o := { dst := some 65, op := Op.buildSlice 46 1 #[(0, Operand.tmp 64)], type := 46, pos := "ref.go:173", after := #[{ on := 7, ground := Ground.data }], guard := none }) rfl (fun K hK => ?_) AllReadyH.nil
                · skip
                  have BZ := below_alloc BW (.cells #[.slice (some ⟨gk, 0, none⟩) kl ck, .slice A3 nv c3] 60)
                  have KZ := KB.after (below_alloc (Below.refl _ _) (.cells #[.slice (some ⟨gk, 0, none⟩) kl ck, .slice A3 nv c3] 60))
                  have VZ := VB.after (below_alloc (Below.refl _ _) (.cells #[.slice (some ⟨gk, 0, none⟩) kl ck, .slice A3 nv c3] 60))
                  go_simp
                  clear BW KB VB
                  have BW := BZ
                  have KB := KZ
                  have VB := VZ
                  clear BZ KZ VZ
                  refine hK.out _ _ (HS.out _ (BW.block _ GXL.out)) (fun hHeld => ?_)
                  clear hK K
                  try simp only [Act.put, List.setIfInBounds_toArray, List.set_cons_zero, List.set_cons_succ]
                  refine wpAnyH_ready (rs := [9]) (by kernel_rfl) (by simp) ?_
                  refine AllReadyH.cons (o := { dst := some 66, op := Op.call { callee := Callee.builtin Builtin.append, args := #[Operand.tmp 57, Operand.tmp 65], argTypes := #[46, 46] }, type := 46, pos := "ref.go:173", after := #[{ on := 0, ground := Ground.data }, { on := 8, ground := Ground.data }, { on := 6, ground := Ground.chain }], guard := none }) rfl (fun K hK => ?_) AllReadyH.nil
                  · skip
                    obtain ⟨v5, wZ, hrZ, hqZ⟩ := Q.out.rep.append BW Q.out.below.size ⟨(kAt KY j).k, vb, some ⟨gk, 0, none⟩, ck, A3, c3⟩ KB VB (fun g o e => by cases e; exact GK.1) NV (b := wA.heap.size) (by rw [← HKL.out, ← HVL.out]; exact Blk.new wA _ _ (by simp)) (by omega)
                    refine step_append_run rfl (.tmp 57) (.tmp 65) _ _ rfl _ _ rfl rfl _ _ hrZ ?_
                    refine hK.out _ _ (HS.out _ (hqZ.keep _ GXL.out GXN.out)) (fun hHeld => ?_)
                    clear hK K
                    try simp only [Act.put, List.setIfInBounds_toArray, List.set_cons_zero, List.set_cons_succ]
                    refine wpAnyH_take (i := 10) (oi := { dst := some 5, op := Op.assign (Operand.tmp 66), type := 46, pos := "ref.go:173", after := #[{ on := 9, ground := Ground.data }, { on := 9, ground := Ground.chain }, { on := 0, ground := Ground.phase }, { on := 1, ground := Ground.phase }, { on := 2, ground := Ground.phase }, { on := 3, ground := Ground.phase }, { on := 4, ground := Ground.phase }, { on := 5, ground := Ground.phase }, { on := 6, ground := Ground.phase }, { on := 7, ground := Ground.phase }, { on := 8, ground := Ground.phase }, { on := 9, ground := Ground.phase }], guard := none }) (v := ?_) rfl (by kernel_rfl) (by kernel_rfl) (by kernel_rfl) (fun _ _ _ h => h) (Or.inl ⟨by rfl, ?_⟩) (by assumption) ?_
                    rotate_left 1
                    · intro w hSw; (try dsimp only at hSw); go_simp; try (with_reducible rfl)
                    try simp only [Act.put, List.setIfInBounds_toArray, List.set_cons_zero, List.set_cons_succ]
                    refine wpAnyH_done (by kernel_rfl) ?_ _
                    have ITN := Lib.hid (Q.out.next (by rw [HLK.out]; exact hjn) HXE.out hqZ)
                    clear hHeld HS BW KB VB hrZ hqZ VBS HOKJ HXE Q GXN
                    go_wp2_with fail
                    go_round
                    case rel => exact ⟨j + 1, _, _, rfl, by go_num, by omega, ITN⟩
                    case measure => simp [intOf]; omega
          · skip
            obtain ⟨b1, hb1⟩ : ∃ b1, b1 = wb.heap.size := ⟨_, rfl⟩
            have OW : (wb.alloc (.cells #[] 5)).drew.ownsRow wb.heap.size 5 1 (.slice (some ⟨b1, 0, none⟩) 0 0) 0 [] := by have q := World.ownsRow_made (base := wb.heap.size) (e := 5) (size := 1) wb #[] 0 (by have := BW.size; exact this) (Nat.zero_le _) rfl; rw [hb1]; exact own_same q (fun _ _ => rfl)
            have BZ : Below wb.heap.size wb (wb.alloc (.cells #[] 5)).drew := Below.drew (below_alloc (Below.refl _ _) _)
            go_simp
            clear BW
            have BW := BZ
            clear BZ
            rw [← hb1]
            have HB1 := Lib.hid hb1
            clear hb1
            refine hK.out _ _ (HS.out _ (BW.block _ GXL.out)) (fun hHeld => ?_)
            clear hK K
            try simp only [Act.put, List.setIfInBounds_toArray, List.set_cons_zero, List.set_cons_succ]
            refine wpAnyH_ready (rs := [3, 6]) (by kernel_rfl) (by simp) ?_
            refine AllReadyH.cons (o := { dst := some 60, op := Op.convert 9 40 (Operand.tmp 59), type := 40, pos := "ref.go:173", after := #[{ on := 2, ground := Ground.data }], guard := none }) rfl (fun K hK => ?_) (AllReadyH.cons (o := { dst := some 63, op := Op.call { callee := Callee.builtin Builtin.append, args := #[Operand.tmp 61, Operand.tmp 62], argTypes := #[40, 40] }, type := 40, pos := "ref.go:173", after := #[{ on := 4, ground := Ground.data }, { on := 5, ground := Ground.data }], guard := none }) rfl (fun K hK => ?_) AllReadyH.nil)
            · skip
              obtain ⟨ck, wC, hrC, hkC, hbC⟩ := conv_bytes (wb.alloc (.cells #[] 5)).drew (kAt KY j).k HOKJ.out
              have gkE : (wb.alloc (.cells #[] 5)).drew.heap.size = wb.heap.size + 1 := by simp
              rw [gkE] at hrC hkC
              obtain ⟨gk, hgk⟩ : ∃ gk, gk = wb.heap.size + 1 := ⟨_, rfl⟩
              rw [← hgk] at hrC hkC
              rw [HKL.out] at hrC
              have BZ := below_next' BW hbC
              have OZ := own_after OW hbC
              have GK : wb.heap.size ≤ gk ∧ gk < wC.heap.size := ⟨by have := BW.size; rw [hgk, ← gkE]; exact this, by have := hkC.2; omega⟩
              have KB := hkC.1
              have HGK := Lib.hid hgk
              have NB : gk ≠ b1 := by rw [HGK.out, HB1.out]; omega
              clear hgk gkE
              go_simp
              clear BW hbC hkC HGK
              have BW := BZ
              clear BZ
              clear OW
              have OW := OZ
              clear OZ
              refine hK.out _ _ (HS.out _ (BW.block _ GXL.out)) (fun hHeld => ?_)
              clear hK K
              try simp only [Act.put, List.setIfInBounds_toArray, List.set_cons_zero, List.set_cons_succ]
              refine wpAnyH_ready (rs := [6]) (by kernel_rfl) (by simp) ?_
              refine AllReadyH.cons (o := { dst := some 63, op := Op.call { callee := Callee.builtin Builtin.append, args := #[Operand.tmp 61, Operand.tmp 62], argTypes := #[40, 40] }, type := 40, pos := "ref.go:173", after := #[{ on := 4, ground := Ground.data }, { on := 5, ground := Ground.data }], guard := none }) rfl (fun K hK => ?_) AllReadyH.nil
              · skip
                obtain ⟨v3, wA, hrA, hoA, hgA⟩ := copy_bytes wC wb.heap.size b1 A2 nv c2 vb 40 OW (VBS.out wC BW) HVL.out.symm (by omega) BW.size
                obtain ⟨A3, c3, rfl, _, _⟩ := own_slice hoA
                have BZ : Below wb.heap.size wb wA := below_own BW OW BW.size hgA
                have VB : BytS wA A3 vb := own_bytS HVL.out.symm hoA
                have NV : ∀ g o, A3 = some ⟨g, o, none⟩ → wb.heap.size ≤ g := fun g o e => (hoA.lt g (by rw [e]; rfl)).1
                have KZ := bytS_grown KB (show gk < _ from GK.2) hgA (fun e => NB (by cases e; rfl))
                have GKZ : wb.heap.size ≤ gk ∧ gk < wA.heap.size := ⟨GK.1, by have := GK.2; have := hgA.size; (try simp at this); omega⟩
                refine step_append_run rfl (.tmp 61) (.tmp 62) _ _ rfl _ _ rfl rfl _ _ hrA ?_
                clear BW OW hoA hgA
                have BW := BZ
                clear BZ
                clear KB GK
                have KB := KZ
                have GK := GKZ
                clear KZ GKZ
                refine hK.out _ _ (HS.out _ (BW.block _ GXL.out)) (fun hHeld => ?_)
                clear hK K
                try simp only [Act.put, List.setIfInBounds_toArray, List.set_cons_zero, List.set_cons_succ]
                refine wpAnyH_take (i := 7) (oi := { dst := some 64, op := Op.build 60 #[(0, Operand.tmp 60), (1, Operand.tmp 63)], type := 60, pos := "ref.go:173", after := #[{ on := 3, ground := Ground.data }, { on := 6, ground := Ground.data }], guard := none }) (v := ?_) rfl (by kernel_rfl) (by kernel_rfl) (by kernel_rfl) (fun _ _ _ h => h) (Or.inl ⟨by rfl, ?_⟩) (by assumption) ?_
                rotate_left 1
                · intro w hSw; (try dsimp only at hSw); go_simp; try (with_reducible rfl)
                try simp only [Act.put, List.setIfInBounds_toArray, List.set_cons_zero, List.set_cons_succ]
                refine wpAnyH_ready (rs := [8]) (by kernel_rfl) (by simp) ?_
                refine AllReadyH.cons (o := { dst := some 65, op := Op.buildSlice 46 1 #[(0, Operand.tmp 64)], type := 46, pos := "ref.go:173", after := #[{ on := 7, ground := Ground.data }], guard := none }) rfl (fun K hK => ?_) AllReadyH.nil
                · skip
                  have BZ := below_alloc BW (.cells #[.slice (some ⟨gk, 0, none⟩) kl ck, .slice A3 nv c3] 60)
                  have KZ := KB.after (below_alloc (Below.refl _ _) (.cells #[.slice (some ⟨gk, 0, none⟩) kl ck, .slice A3 nv c3] 60))
                  have VZ := VB.after (below_alloc (Below.refl _ _) (.cells #[.slice (some ⟨gk, 0, none⟩) kl ck, .slice A3 nv c3] 60))
                  go_simp
                  clear BW KB VB
                  have BW := BZ
                  have KB := KZ
                  have VB := VZ
                  clear BZ KZ VZ
                  refine hK.out _ _ (HS.out _ (BW.block _ GXL.out)) (fun hHeld => ?_)
                  clear hK K
                  try simp only [Act.put, List.setIfInBounds_toArray, List.set_cons_zero, List.set_cons_succ]
                  refine wpAnyH_ready (rs := [9]) (by kernel_rfl) (by simp) ?_
                  refine AllReadyH.cons (o := { dst := some 66, op := Op.call { callee := Callee.builtin Builtin.append, args := #[Operand.tmp 57, Operand.tmp 65], argTypes := #[46, 46] }, type := 46, pos := "ref.go:173", after := #[{ on := 0, ground := Ground.data }, { on := 8, ground := Ground.data }, { on := 6, ground := Ground.chain }], guard := none }) rfl (fun K hK => ?_) AllReadyH.nil
                  · skip
                    obtain ⟨v5, wZ, hrZ, hqZ⟩ := Q.out.rep.append BW Q.out.below.size ⟨(kAt KY j).k, vb, some ⟨gk, 0, none⟩, ck, A3, c3⟩ KB VB (fun g o e => by cases e; exact GK.1) NV (b := wA.heap.size) (by rw [← HKL.out, ← HVL.out]; exact Blk.new wA _ _ (by simp)) (by omega)
                    refine step_append_run rfl (.tmp 57) (.tmp 65) _ _ rfl _ _ rfl rfl _ _ hrZ ?_
                    refine hK.out _ _ (HS.out _ (hqZ.keep _ GXL.out GXN.out)) (fun hHeld => ?_)
                    clear hK K
                    try simp only [Act.put, List.setIfInBounds_toArray, List.set_cons_zero, List.set_cons_succ]
                    refine wpAnyH_take (i := 10) (oi := { dst := some 5, op := Op.assign (Operand.tmp 66), type := 46, pos := "ref.go:173", after := #[{ on := 9, ground := Ground.data }, { on := 9, ground := Ground.chain }, { on := 0, ground := Ground.phase }, { on := 1, ground := Ground.phase }, { on := 2, ground := Ground.phase }, { on := 3, ground := Ground.phase }, { on := 4, ground := Ground.phase }, { on := 5, ground := Ground.phase }, { on := 6, ground := Ground.phase }, { on := 7, ground := Ground.phase }, { on := 8, ground := Ground.phase }, { on := 9, ground := Ground.phase }], guard := none }) (v := ?_) rfl (by kernel_rfl) (by kernel_rfl) (by kernel_rfl) (fun _ _ _ h => h) (Or.inl ⟨by rfl, ?_⟩) (by assumption) ?_
                    rotate_left 1
                    · intro w hSw; (try dsimp only at hSw); go_simp; try (with_reducible rfl)
                    try simp only [Act.put, List.setIfInBounds_toArray, List.set_cons_zero, List.set_cons_succ]
                    refine wpAnyH_done (by kernel_rfl) ?_ _
                    have ITN := Lib.hid (Q.out.next (by rw [HLK.out]; exact hjn) HXE.out hqZ)
                    clear hHeld HS BW KB VB hrZ hqZ VBS HOKJ HXE Q GXN
                    go_wp2_with fail
                    go_round
                    case rel => exact ⟨j + 1, _, _, rfl, by go_num, by omega, ITN⟩
                    case measure => simp [intOf]; omega
            · skip
              obtain ⟨v3, wA, hrA, hoA, hgA⟩ := copy_bytes (wb.alloc (.cells #[] 5)).drew wb.heap.size b1 A2 nv c2 vb 40 OW (VBS.out (wb.alloc (.cells #[] 5)).drew BW) HVL.out.symm (by omega) BW.size
              obtain ⟨A3, c3, rfl, _, _⟩ := own_slice hoA
              have BZ : Below wb.heap.size wb wA := below_own BW OW BW.size hgA
              have VB : BytS wA A3 vb := own_bytS HVL.out.symm hoA
              have NV : ∀ g o, A3 = some ⟨g, o, none⟩ → wb.heap.size ≤ g := fun g o e => (hoA.lt g (by rw [e]; rfl)).1
              refine step_append_run rfl (.tmp 61) (.tmp 62) _ _ rfl _ _ rfl rfl _ _ hrA ?_
              clear BW OW hoA hgA
              have BW := BZ
              clear BZ
              refine hK.out _ _ (HS.out _ (BW.block _ GXL.out)) (fun hHeld => ?_)
              clear hK K
              try simp only [Act.put, List.setIfInBounds_toArray, List.set_cons_zero, List.set_cons_succ]
              refine wpAnyH_ready (rs := [3]) (by kernel_rfl) (by simp) ?_
              refine AllReadyH.cons (o := { dst := some 60, op := Op.convert 9 40 (Operand.tmp 59), type := 40, pos := "ref.go:173", after := #[{ on := 2, ground := Ground.data }], guard := none }) rfl (fun K hK => ?_) AllReadyH.nil
              · skip
                obtain ⟨ck, wC, hrC, hkC, hbC⟩ := conv_bytes wA (kAt KY j).k HOKJ.out
                have gkE : wA.heap.size = wA.heap.size := by simp
                rw [gkE] at hrC hkC
                obtain ⟨gk, hgk⟩ : ∃ gk, gk = wA.heap.size := ⟨_, rfl⟩
                rw [← hgk] at hrC hkC
                rw [HKL.out] at hrC
                have BZ := below_next' BW hbC
                have VZ := VB.after hbC
                have GK : wb.heap.size ≤ gk ∧ gk < wC.heap.size := ⟨by have := BW.size; rw [hgk, ← gkE]; exact this, by have := hkC.2; omega⟩
                have KB := hkC.1
                have HGK := Lib.hid hgk
                clear hgk gkE
                go_simp
                clear BW hbC hkC HGK
                have BW := BZ
                clear BZ
                clear VB
                have VB := VZ
                clear VZ
                refine hK.out _ _ (HS.out _ (BW.block _ GXL.out)) (fun hHeld => ?_)
                clear hK K
                try simp only [Act.put, List.setIfInBounds_toArray, List.set_cons_zero, List.set_cons_succ]
                refine wpAnyH_take (i := 7) (oi := { dst := some 64, op := Op.build 60 #[(0, Operand.tmp 60), (1, Operand.tmp 63)], type := 60, pos := "ref.go:173", after := #[{ on := 3, ground := Ground.data }, { on := 6, ground := Ground.data }], guard := none }) (v := ?_) rfl (by kernel_rfl) (by kernel_rfl) (by kernel_rfl) (fun _ _ _ h => h) (Or.inl ⟨by rfl, ?_⟩) (by assumption) ?_
                rotate_left 1
                · intro w hSw; (try dsimp only at hSw); go_simp; try (with_reducible rfl)
                try simp only [Act.put, List.setIfInBounds_toArray, List.set_cons_zero, List.set_cons_succ]
                refine wpAnyH_ready (rs := [8]) (by kernel_rfl) (by simp) ?_
                refine AllReadyH.cons (o := { dst := some 65, op := Op.buildSlice 46 1 #[(0, Operand.tmp 64)], type := 46, pos := "ref.go:173", after := #[{ on := 7, ground := Ground.data }], guard := none }) rfl (fun K hK => ?_) AllReadyH.nil
                · skip
                  have BZ := below_alloc BW (.cells #[.slice (some ⟨gk, 0, none⟩) kl ck, .slice A3 nv c3] 60)
                  have KZ := KB.after (below_alloc (Below.refl _ _) (.cells #[.slice (some ⟨gk, 0, none⟩) kl ck, .slice A3 nv c3] 60))
                  have VZ := VB.after (below_alloc (Below.refl _ _) (.cells #[.slice (some ⟨gk, 0, none⟩) kl ck, .slice A3 nv c3] 60))
                  go_simp
                  clear BW KB VB
                  have BW := BZ
                  have KB := KZ
                  have VB := VZ
                  clear BZ KZ VZ
                  refine hK.out _ _ (HS.out _ (BW.block _ GXL.out)) (fun hHeld => ?_)
                  clear hK K
                  try simp only [Act.put, List.setIfInBounds_toArray, List.set_cons_zero, List.set_cons_succ]
                  refine wpAnyH_ready (rs := [9]) (by kernel_rfl) (by simp) ?_
                  refine AllReadyH.cons (o := { dst := some 66, op := Op.call { callee := Callee.builtin Builtin.append, args := #[Operand.tmp 57, Operand.tmp 65], argTypes := #[46, 46] }, type := 46, pos := "ref.go:173", after := #[{ on := 0, ground := Ground.data }, { on := 8, ground := Ground.data }, { on := 6, ground := Ground.chain }], guard := none }) rfl (fun K hK => ?_) AllReadyH.nil
                  · skip
                    obtain ⟨v5, wZ, hrZ, hqZ⟩ := Q.out.rep.append BW Q.out.below.size ⟨(kAt KY j).k, vb, some ⟨gk, 0, none⟩, ck, A3, c3⟩ KB VB (fun g o e => by cases e; exact GK.1) NV (b := wC.heap.size) (by rw [← HKL.out, ← HVL.out]; exact Blk.new wC _ _ (by simp)) (by omega)
                    refine step_append_run rfl (.tmp 57) (.tmp 65) _ _ rfl _ _ rfl rfl _ _ hrZ ?_
                    refine hK.out _ _ (HS.out _ (hqZ.keep _ GXL.out GXN.out)) (fun hHeld => ?_)
                    clear hK K
                    try simp only [Act.put, List.setIfInBounds_toArray, List.set_cons_zero, List.set_cons_succ]
                    refine wpAnyH_take (i := 10) (oi := { dst := some 5, op := Op.assign (Operand.tmp 66), type := 46, pos := "ref.go:173", after := #[{ on := 9, ground := Ground.data }, { on := 9, ground := Ground.chain }, { on := 0, ground := Ground.phase }, { on := 1, ground := Ground.phase }, { on := 2, ground := Ground.phase }, { on := 3, ground := Ground.phase }, { on := 4, ground := Ground.phase }, { on := 5, ground := Ground.phase }, { on := 6, ground := Ground.phase }, { on := 7, ground := Ground.phase }, { on := 8, ground := Ground.phase }, { on := 9, ground := Ground.phase }], guard := none }) (v := ?_) rfl (by kernel_rfl) (by kernel_rfl) (by kernel_rfl) (fun _ _ _ h => h) (Or.inl ⟨by rfl, ?_⟩) (by assumption) ?_
                    rotate_left 1
                    · intro w hSw; (try dsimp only at hSw); go_simp; try (with_reducible rfl)
                    try simp only [Act.put, List.setIfInBounds_toArray, List.set_cons_zero, List.set_cons_succ]
                    refine wpAnyH_done (by kernel_rfl) ?_ _
                    have ITN := Lib.hid (Q.out.next (by rw [HLK.out]; exact hjn) HXE.out hqZ)
                    clear hHeld HS BW KB VB hrZ hqZ VBS HOKJ HXE Q GXN
                    go_wp2_with fail
                    go_round
                    case rel => exact ⟨j + 1, _, _, rfl, by go_num, by omega, ITN⟩
                    case measure => simp [intOf]; omega
    · have hjs : j = lk := by omega
      subst hjs
      have D := Lib.hid (DONE.out _ _ _ Q.out)
      obtain ⟨A3, c3', rfl, hc31, hc32⟩ := own_slice Q.out.rep.row
      clear hkc c0
      go_wp2_with fail
      go_ret
      exact D.out

theorem r9_Items (w : World) (gt g2 : Nat) (T : TT) (M : PM) (F G : Nat → Prop) (i : Int) (h : RepB w gt g2 T M F G) (hT : T.length ≤ 1000) :
    Calls Try.prog 18 #[.pointer (some ⟨gt, 0, none⟩), .int .i64 i] w (ItemsW (tItems T M i) w) := by
  unfold tItems
  by_cases hi : 0 ≤ i ∧ i < T.length
  · rw [if_pos hi]
    obtain ⟨k, rfl⟩ : ∃ k : Nat, i = k := ⟨i.toNat, by omega⟩
    obtain ⟨vl, L, rfl, h'⟩ := h.maps
    rw [trM_len] at hi hT
    exact r9_Items_yes w gt g2 L vl M F G k h h' (by omega) hT _ (by rw [Int.toNat_natCast, trM_at]; rfl)
  · rw [if_neg hi]
    exact r9_Items_no w gt g2 T M F G i h hi

end Go.Proofs.Ytnnmcfklmmpdaaa


/-
  Layer 9, the program's Items: what is gathered while a map is gone through, whatever its order.
  Conditions: none.
-/
namespace Go.Proofs.Ytnnmcfklmmpdaaa
open Go.RowKit
set_option maxRecDepth 100000
set_option linter.unusedVariables false
set_option linter.unusedSimpArgs false

theorem pArea_fewP {w : World} {g : Nat} {M : PM} {F : Nat → Prop} (h : RepP w g M F) (i : Int) : (pArea M i).1.length ≤ 100000 := by
  obtain ⟨vl, L, rfl, h⟩ := h
  have hok := h.ok
  unfold pArea
  cases hx : pIx (arM L) i with
  | none => exact Nat.zero_le _
  | some k =>
    have := (hok k (pIx_some hx).1).2.2.1
    exact Nat.le_trans this (by omega)
set_option maxHeartbeats 2000000 in
/-- An area's bytes, in a block of the call's own. -/
theorem c8_AreaN (w : World) (g : Nat) (M : PM) (F : Nat → Prop) (i : Int) (h : RepP w g M F) (hi : -9223372036854775808 ≤ i ∧ i ≤ 9223372036854775807) :
    Calls Try.prog 19 #[.pointer (some ⟨g, 0, none⟩), .int .i64 i] w
      (fun e w' => ∃ A c, e = .returned (.tuple #[.slice A (pArea M i).1.length c, .bool (pArea M i).2]) ∧ BytS w' A (pArea M i).1 ∧ (pArea M i).1.length ≤ c ∧ c ≤ maxLen ∧ Below w.heap.size w w' ∧ ∀ g o, A = some ⟨g, o, none⟩ → w.heap.size ≤ g) := by
  obtain ⟨mv, L, rfl, h⟩ := h
  have c0 := h.cell
  have HLK := h.look w (Below.refl _ _) i hi
  unfold pArea
  cases hx : pIx (arM L) i with
  | none =>
    rw [rgF_none hx] at HLK
    dsimp only [Option.getD_none, Option.isSome_none] at HLK
    rw [show rgZ = .agg #[.slice none 0 0, .slice none 0 0, .bool false] from rfl] at HLK
    dsimp only
    clear hx h
    go_enter Try.func19, Try.ntmps19
    go_wp2_with fail
    go_ret2
    exact ⟨none, 0, rfl, BytS.none_ _ _, Nat.le_refl _, Nat.zero_le _, below_alloc (Below.refl _ _) _, fun g o e => by cases e⟩
  | some k =>
    have hk := (pIx_some hx).1
    have hok := h.ok k hk
    rw [arM_len] at hk
    rw [arM_at] at hok
    obtain ⟨-, -, hb1024, -⟩ := hok
    rw [rgF_some hx] at HLK
    dsimp only [Option.getD_some, Option.isSome_some] at HLK
    obtain ⟨Ab, cb, hvb, hcb1, hcb2⟩ := own_slice (h.own k hk).1
    obtain ⟨Ak, ck, hvk, hck1, hck2⟩ := own_slice (h.own k hk).2
    unfold rgV at HLK
    rw [hvb, hvk] at HLK
    have BS := Lib.hid (own_bytS rfl (by have := (h.own k hk).1; rw [hvb] at this; exact this))
    dsimp only
    rw [show (pAt (arM L) k).b = (arAt L k).a.b by rw [arM_at]]
    clear hx h hvb hvk
    generalize (arAt L k).a.fx = fx at *
    generalize (arAt L k).a.bl.length = lk at *
    generalize (arAt L k).a.b = b at *
    have OWN : Hid (∀ u n, Below w.heap.size w u → n = b.length → Calls Try.prog 42 #[.slice Ab n cb] u (fun e w' => ∃ A c, e = .returned (.slice A b.length c) ∧ BytS w' A b ∧ b.length ≤ c ∧ c ≤ maxLen ∧ Below w.heap.size w w' ∧ ∀ g o, A = some ⟨g, o, none⟩ → w.heap.size ≤ g)) := Lib.hid fun u n hu hn => by
      refine (c8_own u Ab b n cb (BS.out.after hu) hn.symm (by omega)).mono ?_
      rintro e w' ⟨ga, rfl, ho, hb⟩
      subst hn
      have hg1 := (ho.lt ga rfl).1
      have hg2 := hu.size
      exact ⟨_, _, rfl, own_bytS rfl ho, Nat.le_refl _, by unfold maxLen; omega, below_next' hu hb, fun g o e => by cases e; omega⟩
    have B1 := Lib.hid (below_alloc (Below.refl w.heap.size w) (.cells #[.slice Ab b.length cb, .slice Ak lk ck, .bool fx] 96))
    go_enter Try.func19, Try.ntmps19
    go_wp2_with fail
    refine (OWN.out _ _ B1.out rfl).mono ?_
    rintro e w2 ⟨A2, c2, rfl, k1, k2, k3, k4, k5⟩
    have KK := Lib.hid (And.intro k1 (And.intro k2 (And.intro k3 (And.intro k4 k5))))
    clear k1 k2 k3 k4 k5
    go_wp2_with fail
    go_ret2
    exact ⟨A2, c2, rfl, KK.out.1, KK.out.2.1, KK.out.2.2.1, KK.out.2.2.2.1, KK.out.2.2.2.2⟩
theorem ranges_same {H : Type} {P : Program} {k : TypeId} {R : Value → Option (DataW H × List MemPlace)} {w w' : World} {b r n : Nat} {D : DataW H} {left : Lit → Bool} {cnt : Nat} (h : w.ranges P k R b r n D left cnt) (hb : w'.heap[b]? = w.heap[b]?) (hr : w'.heap[r]? = w.heap[r]?) : w'.ranges P k R b r n D left cnt := by
  obtain ⟨es, clock, since, seen, c0, h1, h2, h3, h4, h5, h6⟩ := h
  exact ⟨es, clock, since, seen, c0, hb.trans h1, h2, h3, h4, hr.trans h5, h6⟩
/-- What has been gathered, of the keys that no more are to come. -/
structure Got (M : PM) (i : Int) (K : List TK) (left : Lit → Bool) (X : List Itm) : Prop where
  nodup : (X.map (·.k)).Nodup
  mem : ∀ x ∈ X, ∃ y ∈ K, (x.k, x.v) = itF M i y ∧ left (kLit y.k) = false
  all : ∀ y ∈ K, left (kLit y.k) = false → ∃ x ∈ X, x.k = y.k
theorem got_start {M : PM} {i : Int} {K : List TK} {left : Lit → Bool} (h : ∀ y ∈ K, left (kLit y.k) = true) : Got M i K left [] :=
  ⟨List.nodup_nil, fun x hx => (by cases hx), fun y hy e => by rw [h y hy] at e; cases e⟩
theorem Got.next {M : PM} {i : Int} {K : List TK} {left : Lit → Bool} {X : List Itm} (h : Got M i K left X) (hK : KOk K) {y : TK} (hy : y ∈ K) (hl : left (kLit y.k) = true) {x : Itm} (hx : (x.k, x.v) = itF M i y) : Got M i K (fun z => left z && !z.sameKey (kLit y.k)) (X ++ [x]) := by
  have hxk : x.k = y.k := congrArg Prod.fst hx
  have same : ∀ z ∈ K, (kLit z.k).sameKey (kLit y.k) = true → z.k = y.k := fun z hz e => kLit_inj (hK.byt z hz) (hK.byt y hy) (WideAt.sameKey_eq e)
  refine ⟨?_, fun z hz => ?_, fun z hz e => ?_⟩
  · rw [List.map_append, List.nodup_append]
    refine ⟨h.nodup, by simp, fun a ha b hb => ?_⟩
    simp only [List.map_cons, List.map_nil, List.mem_singleton] at hb
    rintro rfl
    obtain ⟨x2, hx2, e2⟩ := List.mem_map.1 ha
    obtain ⟨y2, hy2, e3, e4⟩ := h.mem x2 hx2
    have e5 : x2.k = y2.k := congrArg Prod.fst e3
    have e6 : y2.k = y.k := by rw [← e5, e2, hb, hxk]
    rw [e6, hl] at e4
    cases e4
  · rcases List.mem_append.1 hz with c | c
    · obtain ⟨y2, hy2, e3, e4⟩ := h.mem z c
      exact ⟨y2, hy2, e3, by rw [e4]; rfl⟩
    · rw [List.mem_singleton] at c
      subst c
      exact ⟨y, hy, hx, by rw [WideAt.sameKey_self (show WideAt.IsKeyLit (kLit y.k) from trivial)]; simp⟩
  · cases hlz : left (kLit z.k)
    · obtain ⟨x2, hx2, e2⟩ := h.all z hz hlz
      exact ⟨x2, List.mem_append_left _ hx2, e2⟩
    · rw [hlz] at e
      simp only [Bool.true_and, Bool.not_eq_false'] at e
      exact ⟨x, by simp, by rw [hxk, same z hz e]⟩
theorem sorted_same {l m : List It} (h1 : l.Pairwise fun x y => kLt x.1 y.1 = true) (h2 : m.Pairwise fun x y => kLt x.1 y.1 = true) (hm : ∀ x, x ∈ l ↔ x ∈ m) : l = m := by
  induction l generalizing m with
  | nil =>
    cases m with
    | nil => rfl
    | cons b m => exact absurd ((hm b).2 (List.mem_cons_self ..)) (by simp)
  | cons a l ih =>
    cases m with
    | nil => exact absurd ((hm a).1 (List.mem_cons_self ..)) (by simp)
    | cons b m =>
      obtain ⟨a1, a2⟩ := List.pairwise_cons.1 h1
      obtain ⟨b1, b2⟩ := List.pairwise_cons.1 h2
      have hab : a = b := by
        rcases List.mem_cons.1 ((hm a).1 (List.mem_cons_self ..)) with e | e
        · exact e
        · rcases List.mem_cons.1 ((hm b).2 (List.mem_cons_self ..)) with e2 | e2
          · exact e2.symm
          · have := kLt_trans (a1 b e2) (b1 a e)
            rw [kLt_irrefl] at this
            cases this
      subst hab
      rw [ih a2 b2 fun x => ?_]
      constructor
      · intro hx
        rcases List.mem_cons.1 ((hm x).1 (List.mem_cons_of_mem _ hx)) with e | e
        · subst e; have := a1 x hx; rw [kLt_irrefl] at this; cases this
        · exact e
      · intro hx
        rcases List.mem_cons.1 ((hm x).2 (List.mem_cons_of_mem _ hx)) with e | e
        · subst e; have := b1 x hx; rw [kLt_irrefl] at this; cases this
        · exact e
/-- All is gathered, and sorted. -/
theorem Got.done {M : PM} {i : Int} {K : List TK} {left : Lit → Bool} {X X' : List Itm} (h : Got M i K left X) (hK : KOk K) (hl : ∀ y ∈ K, left (kLit y.k) = false) (hp : X'.Perm X) (hs : ∀ i j, i < j → j < X'.length → kLt (xAt X' j).k (xAt X' i).k = false) : itL X' = K.map (itF M i) := by
  have hn : (X'.map (·.k)).Nodup := (hp.map (·.k)).nodup_iff.2 h.nodup
  have hat : ∀ j (hj : j < X'.length), xAt X' j = X'[j] := fun j hj => by unfold xAt; rw [List.getD_eq_getElem?_getD, List.getElem?_eq_getElem hj]; rfl
  refine sorted_same ?_ ?_ fun x => ?_
  · unfold itL
    rw [List.pairwise_map, List.pairwise_iff_getElem]
    intro a b ha hb hab
    have h1 := hs a b hab hb
    rw [hat a ha, hat b hb] at h1
    refine kLt_total h1 fun e => ?_
    rw [List.nodup_iff_pairwise_ne, List.pairwise_map, List.pairwise_iff_getElem] at hn
    exact hn a b ha hb hab e.symm
  · rw [List.pairwise_map]
    exact hK.rise
  · unfold itL
    simp only [List.mem_map]
    constructor
    · rintro ⟨z, hz, rfl⟩
      obtain ⟨y, hy, e, -⟩ := h.mem z (hp.mem_iff.1 hz)
      exact ⟨y, hy, e.symm⟩
    · rintro ⟨y, hy, rfl⟩
      obtain ⟨z, hz, e⟩ := h.all y hy (hl y hy)
      obtain ⟨y2, hy2, e2, -⟩ := h.mem z hz
      refine ⟨z, hp.mem_iff.2 hz, ?_⟩
      have e3 : y2.k = y.k := by rw [← e]; exact (congrArg Prod.fst e2).symm
      have : y2 = y := by
        by_cases hyy : y2 = y
        · exact hyy
        · exfalso
          have hpw := hK.rise
          obtain ⟨p, hp1, rfl⟩ := List.mem_iff_getElem.mp hy
          obtain ⟨q, hq1, rfl⟩ := List.mem_iff_getElem.mp hy2
          rw [List.pairwise_iff_getElem] at hpw
          rcases Nat.lt_trichotomy p q with c | c | c
          · have := hpw p q hp1 hq1 c; rw [e3, kLt_irrefl] at this; cases this
          · subst c; exact hyy rfl
          · have := hpw q p hq1 hp1 c; rw [e3, kLt_irrefl] at this; cases this
      rw [← this]
      exact e2

end Go.Proofs.Ytnnmcfklmmpdaaa


/-
  Layer 9, the program's Items.
  Conditions: the numbers fit their kinds; few maps.
-/
namespace Go.Proofs.Ytnnmcfklmmpdaaa
open Go.RowKit
set_option maxRecDepth 100000
set_option linter.unusedVariables false
set_option linter.unusedSimpArgs false

theorem ItR.lower {base base' : Nat} {w : World} {v : Value} {L : List Itm} (h : ItR base w v L) (hb : base' ≤ base) : ItR base' w v L :=
  ⟨own_base h.row (fun k hk => Nat.le_trans hb (h.row.lt k hk).1), h.byt, fun j hj g o => ⟨fun e => Nat.le_trans hb ((h.low j hj g o).1 e), fun e => Nat.le_trans hb ((h.low j hj g o).2 e)⟩, h.sep⟩

set_option maxHeartbeats 2000000 in
theorem q9_Items_no (w : World) (gt gm : Nat) (T : TT) (M : PM) (F : Nat → Prop) (i : Int) (h : RepU w gt gm T F) (hi : (decide (0 ≤ i) && decide (i < T.length)) = false) :
    Calls Try.prog 17 #[.pointer (some ⟨gt, 0, none⟩), .int .i64 i] w (ItemsW [] w) := by
  have HA := Lib.hid (q9_has w gt gm T F i h)
  rw [hi] at HA
  clear h hi
  go_enter Try.func17, Try.ntmps17
  go_wp2_with fail
  refine (HA.out).mono ?_
  rintro e w1 ⟨rfl, b1⟩
  have V := Lib.hid b1
  clear b1
  go_wp2_with fail
  go_ret
  exact ⟨none, 0, [], rfl, rfl, ItR.nil _ _, V.out⟩

section
variable {w : World} {ops : Array Oper} {rest : List Oper} {o : Oper} {a : Act} {Q : Exit → Act → World → Prop}
/-- One more of a map's slots comes, or none. -/
theorem wpList_next_slots (w : World) (hg : o.guard = none) (it : Operand) (hop : o.op = Op.next it false) (b r n : Nat) (D : DataW Value) (left : Lit → Bool) (cnt : Nat) (K : List TK) (hit : a.eval it = .pointer (some ⟨r, 0, none⟩)) (h : w.ranges Try.prog 9 rawElem b r n D left cnt)
    (HL : ∀ kl, left kl = true → ∃ y ∈ K, kl = kLit y.k) (HD : ∀ y ∈ K, ∀ z, D.atKey (kLit y.k) z = .held (.int .i64 (y.s : Int)))
    (hDone : (∀ kl, left kl = false) → wpList Try.prog ops Q rest (a.put o.dst (.tuple #[.bool false])) w)
    (hMore : ∀ (y : TK) (w' : World) (cnt' : Nat), y ∈ K → left (kLit y.k) = true → w'.ranges Try.prog 9 rawElem b r n D (fun z => left z && !z.sameKey (kLit y.k)) cnt' → cnt' < cnt → w.grownBy w' (some r) → w'.heap.size = w.heap.size →
      (Instr.entry (.pointer (some ⟨r, 0, none⟩))).run Try.prog w' = .ok (.tuple #[.string (strOfNums y.k), .int .i64 (y.s : Int)]) w' → wpList Try.prog ops Q rest (a.put o.dst (.tuple #[.bool true, .string (strOfNums y.k), .int .i64 (y.s : Int)])) w') :
    wpList Try.prog ops Q (o :: rest) a w :=
  wpList_next_ranges w hg it hop 9 strK rawElem Value.string (fun v : Value => v) (fun key kl hkey => by
      obtain ⟨s, e, _⟩ := WideMaps.string_of_keyOf Try.underlying9 hkey
      exact ⟨s, e⟩) (fun v y _ => ⟨v, rfl⟩) b r n D left cnt hit h (fun _ hl => hDone hl)
    (fun x c kl y w' cnt' hkey hlk hv hat hrg hlt hgr hsz hen => by
      obtain ⟨z, hz, rfl⟩ := HL kl hlk
      obtain ⟨s, e1, e2, _⟩ := WideMaps.string_of_keyOf Try.underlying9 hkey
      cases e1
      have hx : x = strOfNums z.k := by
        unfold kLit at e2
        rw [Lib.toList_data] at e2
        simp only [Lit.string.injEq] at e2
        cases x with
        | mk d =>
          cases hs : strOfNums z.k with
          | mk d2 =>
            rw [hs] at e2
            congr 1
            exact (Array.ext' e2).symm
      have h1 := hat (.held (.bool false))
      rw [HD z hz] at h1
      simp only [rawElem, Option.some.injEq] at hv
      rw [← hv] at h1
      simp only [DataW.held.injEq] at h1
      subst hx
      subst h1
      exact hMore z w' cnt' hz hlk hrg hlt hgr hsz hen)
end
/-- What is to come is of K. -/
def LeftIn (K : List TK) (left : Lit → Bool) : Prop := ∀ kl, left kl = true → ∃ y ∈ K, kl = kLit y.k
/-- While a map's items are gathered. -/
structure ItQ (w wn : World) (gt gm : Nat) (T : TT) (M : PM) (F G : Nat → Prop) (mb r n : Nat) (D : DataW Value) (left : Lit → Bool) (cnt : Nat) (u : World) : Prop where
  rep : RepD u gt gm T M F G
  rng : u.ranges Try.prog 9 rawElem mb r n D left cnt
  below : Below w.heap.size w u
  on : Below wn.heap.size wn u
theorem ItQ.after {w wn u u' : World} {gt gm : Nat} {T : TT} {M : PM} {F G : Nat → Prop} {mb r n : Nat} {D : DataW Value} {left : Lit → Bool} {cnt : Nat} (h : ItQ w wn gt gm T M F G mb r n D left cnt u) (b : Below u.heap.size u u') : ItQ w wn gt gm T M F G mb r n D left cnt u' :=
  ⟨h.rep.after b, ranges_same h.rng (b.block mb h.rng.owns.lt) (b.block r h.rng.lt), below_next' h.below b, below_next' h.on b⟩

set_option maxHeartbeats 8000000 in
theorem q9_Items_yes (w : World) (gt gm : Nat) (vl : Value) (L : List TR) (M : PM) (F G : Nat → Prop) (k : Nat) (h : RepD w gt gm (trM L) M F G) (hV : RepV w gt gm vl L F) (hk : k < L.length) (hL : L.length ≤ 1000) :
    Calls Try.prog 17 #[.pointer (some ⟨gt, 0, none⟩), .int .i64 (k : Int)] w (ItemsW ((trAt L k).m.L.map (itF M k)) w) := by
  have HA := Lib.hid (q9_has w gt gm (trM L) F (k : Int) h.maps)
  rw [trM_len, decide_eq_true (by omega : (0 : Int) ≤ (k : Int)), decide_eq_true (by omega : (k : Int) < (L.length : Int)), Bool.and_self] at HA
  obtain ⟨gl, cl, hvl, k1, k2, hg, -, -, -, -, e4, -⟩ := hV.at_ hk
  obtain ⟨c0, c1⟩ := hV.cells
  rw [hvl] at c1
  unfold maxLen at k2
  have hok := h.maps.ok k (by rw [trM_len]; exact hk)
  rw [trM_at] at hok
  obtain ⟨mb, hmb⟩ : ∃ mb, (trAt L k).v = .map (some mb) := by
    obtain ⟨vl2, L2, e, hV2, -, hnn⟩ := h.maps
    obtain ⟨mb, em⟩ := hV.mapV hk
    cases mb with
    | some b => exact ⟨b, em⟩
    | none =>
      exfalso
      have hLL : L2.length = L.length := by have := congrArg List.length e; simpa [trM] using this.symm
      obtain ⟨gl2, cl2, hvl2, -, -, -, -, -, -, -, e42, -⟩ := hV2.at_ (k := k) (by omega)
      have d1 := hV2.cells.2
      rw [hV.cells.2, hvl, hvl2] at d1
      have e5 : gl = gl2 := by
        injection d1 with d1
        injection d1 with d1 _ _
        injection d1 with d1
        injection d1
      subst e5
      rw [e4, em] at e42
      exact hnn k (by omega) (Option.some.inj e42).symm
  have hsl := hV.own k hk
  rw [hmb] at hsl e4
  have HOWN : Hid (∀ u, Below w.heap.size w u → ∃ D, u.ownsMap Try.prog 9 rawElem mb (trAt L k).m.L.length D ∧ (∀ kl, Maps.has D kl = true → ∃ y ∈ (trAt L k).m.L, kl = kLit y.k) ∧ (∀ y ∈ (trAt L k).m.L, Maps.has D (kLit y.k) = true) ∧ ∀ y ∈ (trAt L k).m.L, ∀ z, D.atKey (kLit y.k) z = .held (.int .i64 (y.s : Int))) := Lib.hid fun u b => by
    have hs : SlotR u (.map (some mb)) (trAt L k).m.L := hsl.same fun x hx => b.block x (hsl.lt hx)
    obtain ⟨D, ho, hm⟩ := hs.is
    obtain ⟨es, rfl, hp, hkk⟩ := ho.entries strK
    refine ⟨_, ho, fun kl hh => ?_, fun y hy => ?_, fun y hy z => ?_⟩
    · obtain ⟨p, hp1, hp2⟩ := List.any_eq_true.1 hh
      have e := WideAt.sameKey_eq hp2
      have h1 := (hm p.1 (hkk p hp1)).1
      rw [e, hh] at h1
      exact str_some h1.symm
    · rw [(hm (kLit y.k) trivial).1]
      exact str_mem hy
    · rw [(hm (kLit y.k) trivial).2 z, str_find (fun x hx => (hok.keys x hx).1) (hok.keys y hy).1]
      have hf : tFind (trAt L k).m.L y.k = some y.s := by
        unfold tFind
        have hr := hok.rise
        generalize (trAt L k).m.L = K at hy hr
        induction K with
        | nil => cases hy
        | cons x K ih =>
          obtain ⟨r1, r2⟩ := List.pairwise_cons.1 hr
          rw [List.find?_cons]
          rcases List.mem_cons.1 hy with e | e
          · subst e; simp
          · have : (x.k == y.k) = false := by
              rw [beq_eq_false_iff_ne]
              exact kLt_ne (r1 y e)
            rw [this]
            exact ih e r2
      rw [hf]
      rfl
  have HMB : Hid (mb < w.heap.size) := Lib.hid (hsl.lt rfl)
  have HH := Lib.hid h
  have HKOK := Lib.hid hok.kok
  have HKS : Hid (∀ y ∈ (trAt L k).m.L, y.s < 1024) := Lib.hid fun y hy => by have := (hok.keys y hy).2.2; have := hok.made; omega
  have HFEW : Hid ((trAt L k).m.L.length ≤ 100) := Lib.hid (by
    have h1 := hok.few
    have hgood := hok.good
    unfold Df.good at hgood
    simp only [Bool.and_eq_true, decide_eq_true_eq] at hgood
    have := hgood.2
    omega)
  have KK := Lib.hid (And.intro c0 (And.intro c1 e4))
  have k0 : (0 : Int) ≤ k := by omega
  have k3 : (k : Int) < L.length := by omega
  clear h hV hok hmb hsl hvl c0 c1 e4 hk
  generalize (trAt L k).m.L = K at *
  generalize hLn : L.length = Ln at *
  generalize hTL : trM L = T at *
  clear hLn hTL
  go_enter Try.func17, Try.ntmps17
  go_wp2_with fail
  refine (HA.out).mono ?_
  rintro e w1 ⟨rfl, b1⟩
  have V := Lib.hid b1
  have c1 := cell_on KK.out.2.1 V.out
  have e4 := cell_on KK.out.2.2 V.out
  obtain ⟨D, hown, hd1, hd2, hd3⟩ := HOWN.out w1 V.out
  have HD3 := Lib.hid hd3
  have HD1 := Lib.hid hd1
  have HD2 := Lib.hid hd2
  clear b1 HA HOWN hd1 hd2 hd3
  go_wp2_with (first | (at_range; refine wpList_range_own _ rfl (.tmp 25) 76 rfl 9 3 strK Try.underlying76 rawElem mb K.length D rfl hown ?_; intro w2 hrg2 hg2 hs2) | fail)
  go_frame
  generalize hr : w1.heap.size = r at *
  have B2 : Hid (Below w.heap.size w w2) := Lib.hid (V.out.trans ⟨hg2.os, hg2.tape, hg2.output, hg2.size, fun x hx => hg2.block x (by have := V.out.size; omega) (by simp)⟩)
  have hwr : w.heap.size ≤ r := by have := V.out.size; omega
  have HWR := Lib.hid hwr
  have RNG := Lib.hid hrg2
  have HS2 := Lib.hid hs2
  clear hrg2 hg2 hs2 hown hr c1 e4 V hwr
  go_loopw [5] (fun l wr => ∃ (left : Lit → Bool) (cnt : Nat) (X : List Itm), Hid (wr.ranges Try.prog 9 rawElem mb r K.length D left cnt) ∧ Hid (ItR (r + 1) wr l X) ∧ Hid (Got M k K left X) ∧ Hid (LeftIn K left) ∧ Hid (Below w.heap.size w wr) ∧ Hid (r + 1 ≤ wr.heap.size)) (fun l wr => wr.rangeLeft mb r)
  case atStart => exact ⟨_, _, [], RNG, Lib.hid (ItR.nil _ _), Lib.hid (got_start HD2.out), HD1, B2, Lib.hid (by have := HS2.out; omega)⟩
  case round =>
    obtain ⟨left, cnt, X, RG, IT, GT, LK, BW, SZ⟩ := hrel
    clear RNG B2 HD1 HD2 HS2
    obtain ⟨A, c, rfl, q1, q2⟩ := own_slice IT.out.row
    have OKX : Hid (∀ x ∈ X, OkB x.k) := Lib.hid fun x hx => by
      obtain ⟨y, hy, e, -⟩ := GT.out.mem x hx
      rw [show x.k = y.k from congrArg Prod.fst e]
      exact HKOK.out.byt y hy
    have LEX : Hid (X.length ≤ K.length) := Lib.hid (by
      have h1 := nodup_le (l := X.map (·.k)) (m := K.map (·.k)) GT.out.nodup (fun z hz => by
        obtain ⟨x, hx, rfl⟩ := List.mem_map.1 hz
        obtain ⟨y, hy, e, -⟩ := GT.out.mem x hx
        exact List.mem_map.2 ⟨y, hy, (congrArg Prod.fst e).symm⟩)
      simpa using h1)
    have QC := Lib.hid (And.intro q1 q2)
    clear q1 q2
    go_wp2_with (first | (at_next; refine wpList_next_slots _ rfl (.tmp 26) rfl mb r K.length D left cnt K rfl RG.out LK.out HD3.out ?_ ?_) | fail)
    · intro hlf
      have HLF := Lib.hid hlf
      have SO := Lib.hid (sort_items wr (r + 1) A X.length c X IT.out OKX.out (by have := LEX.out; have := HFEW.out; omega))
      clear hlf
      generalize hXl : X.length = nx at *
      have HXL := Lib.hid hXl
      clear hXl
      go_wp2_with fail
      refine (SO.out).mono ?_
      rintro e w5 ⟨rfl, X', hp, hs, hi, hb⟩
      have HI := Lib.hid hi
      have HB := Lib.hid hb
      have DN := Lib.hid (GT.out.done HKOK.out (fun y _ => HLF.out (kLit y.k)) hp hs)
      have HPL : Hid (X'.length = nx) := Lib.hid (by rw [hp.length_eq, HXL.out])
      clear hp hs hi hb SO
      go_wp2_with fail
      go_ret
      have hlen : (K.map (itF M k)).length = nx := by rw [← DN.out, itL, List.length_map]; exact HPL.out
      unfold ItemsW
      rw [hlen]
      refine ⟨A, c, X', rfl, DN.out, HI.out.lower (by have := HWR.out; omega), ?_⟩
      have h1 := HWR.out
      exact BW.out.trans (HB.out.mono (by omega))
    · intro y wn cnt' hy hly hrgn hcn hgn hsn hen
      have hbn : Below w.heap.size w wn := BW.out.trans ⟨hgn.os, hgn.tape, hgn.output, by omega, fun x hx => hgn.block x (by have := SZ.out; have := HWR.out; omega) (by have := HWR.out; intro e; cases e; omega)⟩
      have ITN : Hid (ItR (r + 1) wn (.slice A X.length c) X) := Lib.hid (IT.out.stay (by omega) fun g h1 h2 => hgn.block g h2 (by intro e; cases e; omega))
      have Q : Hid (ItQ w wn gt gm T M F G mb r K.length D (fun z => left z && !z.sameKey (kLit y.k)) cnt' wn) := Lib.hid ⟨HH.out.after hbn, hrgn, hbn, Below.refl _ _⟩
      have y0 := HKS.out y hy
      have hko := HKOK.out.byt y hy
      have SZN : Hid (r + 1 ≤ wn.heap.size) := Lib.hid (by have := SZ.out; omega)
      have CN : Hid (cnt' < cnt) := Lib.hid hcn
      have GTN : Hid (∀ x : Itm, (x.k, x.v) = itF M k y → Got M k K (fun z => left z && !z.sameKey (kLit y.k)) (X ++ [x])) := Lib.hid fun x hx => GT.out.next HKOK.out hy hly hx
      have LKN : Hid (LeftIn K (fun z => left z && !z.sameKey (kLit y.k))) := Lib.hid fun kl h => LK.out kl (by simp only [Bool.and_eq_true] at h; exact h.1)
      have HS : Hid (∀ u, ItQ w wn gt gm T M F G mb r K.length D (fun z => left z && !z.sameKey (kLit y.k)) cnt' u → u.cell? ⟨gt, 0, none⟩ = some (.pointer (some ⟨gm, 0, none⟩))) := Lib.hid fun u q => by
        obtain ⟨vl2, L2, -, hV2, -⟩ := q.rep.maps
        exact hV2.cells.1
      have AR : Hid (∀ u, Calls Try.prog 20 #[.int .i64 (k : Int), .int .i64 (y.s : Int)] u (Gives (.int .i64 (tArea k y.s)) u)) := Lib.hid fun u => q9_Area k y.s u (by omega) (by omega)
      have hAr : -9223372036854775808 ≤ tArea k y.s ∧ tArea k y.s ≤ 9223372036854775807 := by unfold tArea; omega
      have MA : Hid (∀ u, ItQ w wn gt gm T M F G mb r K.length D (fun z => left z && !z.sameKey (kLit y.k)) cnt' u → Calls Try.prog 19 #[.pointer (some ⟨gm, 0, none⟩), .int .i64 (tArea k y.s)] u (fun e u' => ∃ A3 c3, e = .returned (.tuple #[.slice A3 (pArea M (tArea k y.s)).1.length c3, .bool (pArea M (tArea k y.s)).2]) ∧ ItQ w wn gt gm T M F G mb r K.length D (fun z => left z && !z.sameKey (kLit y.k)) cnt' u' ∧ BytS u' A3 (pArea M (tArea k y.s)).1 ∧ ∀ g o, A3 = some ⟨g, o, none⟩ → wn.heap.size ≤ g)) := Lib.hid fun u q => by
        refine (c8_AreaN u gm M G (tArea k y.s) q.rep.mem hAr).mono ?_
        rintro e u' ⟨A3, c3, rfl, a1, a2, a3, a4, a5⟩
        exact ⟨A3, c3, rfl, q.after a4, a1, fun g o e => Nat.le_trans q.on.size (a5 g o e)⟩
      have EVL : Hid ((y.k, (pArea M (tArea k y.s)).1) = itF M k y) := Lib.hid rfl
      have HRG := RG
      have HNX : Hid (X.length ≤ 100) := Lib.hid (by have := LEX.out; have := HFEW.out; omega)
      clear hrgn hgn hbn hcn hsn hy hly GT IT LK BW SZ OKX LEX HH HD3 HKS HFEW HKOK hAr y0
      generalize hle : left = lf at *
      generalize (fun z => lf z && !z.sameKey (kLit y.k)) = left' at *
      generalize tArea k y.s = ar at *
      generalize (pArea M ar).1 = av at *
      generalize (pArea M ar).2 = ab at *
      generalize hyk : y.k = yk at *
      generalize y.s = ys at *
      generalize hXl : X.length = nx at *
      have HXL := Lib.hid hXl
      clear hXl hyk hle
      go_upto_region 7 with fail
      have QN := Q
      clear hen
      replace Q := Lib.hid (Q.out.after (Below.drew (Below.refl _ _)))
      refine wp_region_held_drew (S := fun w' => w'.cell? ⟨gt, 0, none⟩ = some (.pointer (some ⟨gm, 0, none⟩))) (by kernel_rfl) (HS.out _ Q.out) (fun hHeld => ?_)
      refine wpAnyH_take (i := 0) (oi := { dst := some 33, op := Op.move (Operand.tmp 0), type := 31, pos := "table.go:120", after := #[], guard := none }) (v := ?_) rfl (by kernel_rfl) (by kernel_rfl) (by kernel_rfl) (fun _ _ _ h => h) (Or.inl ⟨by rfl, ?_⟩) (by first | exact hHeld | assumption) ?_
      rotate_left 1
      · intro w hSw; (try dsimp only at hSw); go_simp; try (with_reducible rfl)
      try simp only [Act.put, List.setIfInBounds_toArray, List.set_cons_zero, List.set_cons_succ]
      refine wpAnyH_take (i := 1) (oi := { dst := some 34, op := Op.nilCheck (Operand.tmp 33), type := 0, pos := "table.go:120", after := #[{ on := 0, ground := Ground.data }], guard := none }) (v := ?_) rfl (by kernel_rfl) (by kernel_rfl) (by kernel_rfl) (fun _ _ _ h => h) (Or.inl ⟨by rfl, ?_⟩) (by first | exact hHeld | assumption) ?_
      rotate_left 1
      · intro w hSw; (try dsimp only at hSw); go_simp; try (with_reducible rfl)
      try simp only [Act.put, List.setIfInBounds_toArray, List.set_cons_zero, List.set_cons_succ]
      refine wpAnyH_take (i := 2) (oi := { dst := some 35, op := Op.fieldAddr 75 (Operand.tmp 34) 0, type := 0, pos := "table.go:120", after := #[{ on := 1, ground := Ground.data }], guard := none }) (v := ?_) rfl (by kernel_rfl) (by kernel_rfl) (by kernel_rfl) (fun _ _ _ h => h) (Or.inl ⟨by rfl, ?_⟩) (by first | exact hHeld | assumption) ?_
      rotate_left 1
      · intro w hSw; (try dsimp only at hSw); go_simp; try (with_reducible rfl)
      try simp only [Act.put, List.setIfInBounds_toArray, List.set_cons_zero, List.set_cons_succ]
      refine wpAnyH_take (i := 3) (oi := { dst := some 36, op := Op.load 25 (Operand.tmp 35), type := 25, pos := "table.go:120", after := #[{ on := 2, ground := Ground.data }], guard := none }) (v := ?_) rfl (by kernel_rfl) (by kernel_rfl) (by kernel_rfl) (fun _ _ _ h => h) (Or.inl ⟨by rfl, ?_⟩) (by first | exact hHeld | assumption) ?_
      rotate_left 1
      · intro w hSw; (try dsimp only at hSw); go_simp; try (with_reducible rfl)
      try simp only [Act.put, List.setIfInBounds_toArray, List.set_cons_zero, List.set_cons_succ]
      refine wpAnyH_take (i := 4) (oi := { dst := some 37, op := Op.move (Operand.tmp 1), type := 3, pos := "table.go:120", after := #[], guard := none }) (v := ?_) rfl (by kernel_rfl) (by kernel_rfl) (by kernel_rfl) (fun _ _ _ h => h) (Or.inl ⟨by rfl, ?_⟩) (by first | exact hHeld | assumption) ?_
      rotate_left 1
      · intro w hSw; (try dsimp only at hSw); go_simp; try (with_reducible rfl)
      try simp only [Act.put, List.setIfInBounds_toArray, List.set_cons_zero, List.set_cons_succ]
      refine wpAnyH_take (i := 5) (oi := { dst := some 38, op := Op.move (Operand.tmp 7), type := 3, pos := "table.go:120", after := #[], guard := none }) (v := ?_) rfl (by kernel_rfl) (by kernel_rfl) (by kernel_rfl) (fun _ _ _ h => h) (Or.inl ⟨by rfl, ?_⟩) (by first | exact hHeld | assumption) ?_
      rotate_left 1
      · intro w hSw; (try dsimp only at hSw); go_simp; try (with_reducible rfl)
      try simp only [Act.put, List.setIfInBounds_toArray, List.set_cons_zero, List.set_cons_succ]
      refine wpAnyH_ready (rs := [6]) (by kernel_rfl) (by simp) ?_
      refine AllReadyH.cons (o := { dst := some 39, op := Op.call { callee := Callee.value (Operand.func 20), args := #[Operand.tmp 37, Operand.tmp 38], argTypes := #[3, 3] }, type := 3, pos := "table.go:120", after := #[{ on := 4, ground := Ground.data }, { on := 5, ground := Ground.data }], guard := none }) rfl (fun K hK => ?_) AllReadyH.nil
      · skip
        go_simp
        refine (AR.out _).mono ?_; rintro e u1 ⟨rfl, b1⟩
        replace Q := Lib.hid (Q.out.after b1)
        clear b1
        go_wp2_with fail
        refine hK.out _ _ (HS.out _ Q.out) (fun hHeld => ?_)
        clear hK K
        try simp only [Act.put, List.setIfInBounds_toArray, List.set_cons_zero, List.set_cons_succ]
        refine wpAnyH_ready (rs := [7]) (by kernel_rfl) (by simp) ?_
        refine AllReadyH.cons (o := { dst := some 40, op := Op.call { callee := Callee.value (Operand.func 19), args := #[Operand.tmp 36, Operand.tmp 39], argTypes := #[25, 3] }, type := 48, pos := "table.go:120", after := #[{ on := 3, ground := Ground.data }, { on := 6, ground := Ground.data }, { on := 6, ground := Ground.chain }], guard := none }) rfl (fun K hK => ?_) AllReadyH.nil
        · skip
          go_simp
          refine (MA.out _ Q.out).mono ?_; rintro e u3 ⟨A3, ca3, rfl, q3⟩
          have Q3 := Lib.hid q3
          clear q3 hHeld
          have hHeld := HS.out _ Q3.out.1
          go_wp2_with fail
          refine hK.out _ _ (HS.out _ Q3.out.1) (fun hHeld => ?_)
          clear hK K
          try simp only [Act.put, List.setIfInBounds_toArray, List.set_cons_zero, List.set_cons_succ]
          refine wpAnyH_take (i := 8) (oi := { dst := some 32, op := Op.move (Operand.tmp 40), type := 48, pos := "table.go:120", after := #[{ on := 7, ground := Ground.data }], guard := none }) (v := ?_) rfl (by kernel_rfl) (by kernel_rfl) (by kernel_rfl) (fun _ _ _ h => h) (Or.inl ⟨by rfl, ?_⟩) (by first | exact hHeld | assumption) ?_
          rotate_left 1
          · intro w hSw; (try dsimp only at hSw); go_simp; try (with_reducible rfl)
          try simp only [Act.put, List.setIfInBounds_toArray, List.set_cons_zero, List.set_cons_succ]
          refine wpAnyH_take (i := 9) (oi := { dst := some 41, op := Op.extract (Operand.tmp 32) 0, type := 40, pos := "table.go:120", after := #[{ on := 8, ground := Ground.data }], guard := none }) (v := ?_) rfl (by kernel_rfl) (by kernel_rfl) (by kernel_rfl) (fun _ _ _ h => h) (Or.inl ⟨by rfl, ?_⟩) (by first | exact hHeld | assumption) ?_
          rotate_left 1
          · intro w hSw; (try dsimp only at hSw); go_simp; try (with_reducible rfl)
          try simp only [Act.put, List.setIfInBounds_toArray, List.set_cons_zero, List.set_cons_succ]
          refine wpAnyH_take (i := 10) (oi := { dst := some 42, op := Op.extract (Operand.tmp 32) 1, type := 4, pos := "table.go:120", after := #[{ on := 8, ground := Ground.data }, { on := 11, ground := Ground.gcOnly Departure.lateStores }], guard := none }) (v := ?_) rfl (by kernel_rfl) (by kernel_rfl) (by kernel_rfl) (fun _ _ _ h => h) (Or.inl ⟨by rfl, ?_⟩) (by first | exact hHeld | assumption) ?_
          rotate_left 1
          · intro w hSw; (try dsimp only at hSw); go_simp; try (with_reducible rfl)
          try simp only [Act.put, List.setIfInBounds_toArray, List.set_cons_zero, List.set_cons_succ]
          refine wpAnyH_take (i := 11) (oi := { dst := some 8, op := Op.assign (Operand.tmp 41), type := 40, pos := "table.go:120", after := #[{ on := 9, ground := Ground.data }, { on := 7, ground := Ground.chain }, { on := 0, ground := Ground.phase }, { on := 1, ground := Ground.phase }, { on := 2, ground := Ground.phase }, { on := 3, ground := Ground.phase }, { on := 4, ground := Ground.phase }, { on := 5, ground := Ground.phase }, { on := 6, ground := Ground.phase }, { on := 7, ground := Ground.phase }, { on := 8, ground := Ground.phase }, { on := 9, ground := Ground.phase }, { on := 10, ground := Ground.textOnly Departure.lateStores }], guard := none }) (v := ?_) rfl (by kernel_rfl) (by kernel_rfl) (by kernel_rfl) (fun _ _ _ h => h) (Or.inl ⟨by rfl, ?_⟩) (by first | exact hHeld | assumption) ?_
          rotate_left 1
          · intro w hSw; (try dsimp only at hSw); go_simp; try (with_reducible rfl)
          try simp only [Act.put, List.setIfInBounds_toArray, List.set_cons_zero, List.set_cons_succ]
          refine wpAnyH_take (i := 12) (oi := { dst := some 9, op := Op.assign (Operand.tmp 42), type := 4, pos := "table.go:120", after := #[{ on := 10, ground := Ground.data }, { on := 11, ground := Ground.chain }, { on := 0, ground := Ground.phase }, { on := 1, ground := Ground.phase }, { on := 2, ground := Ground.phase }, { on := 3, ground := Ground.phase }, { on := 4, ground := Ground.phase }, { on := 5, ground := Ground.phase }, { on := 6, ground := Ground.phase }, { on := 7, ground := Ground.phase }, { on := 8, ground := Ground.phase }, { on := 9, ground := Ground.phase }, { on := 10, ground := Ground.phase }, { on := 11, ground := Ground.phase }], guard := none }) (v := ?_) rfl (by kernel_rfl) (by kernel_rfl) (by kernel_rfl) (fun _ _ _ h => h) (Or.inl ⟨by rfl, ?_⟩) (by first | exact hHeld | assumption) ?_
          rotate_left 1
          · intro w hSw; (try dsimp only at hSw); go_simp; try (with_reducible rfl)
          try simp only [Act.put, List.setIfInBounds_toArray, List.set_cons_zero, List.set_cons_succ]
          refine wpAnyH_done (by kernel_rfl) ?_ _
          clear hHeld HS AR MA
          obtain ⟨q4, hb3, hf3⟩ := Q3.out
          obtain ⟨cK, u4, hcv, ⟨hbk, hlt4⟩, b4⟩ := conv_bytes u3 yk hko
          have b5 := below_alloc (below_next' q4.on b4) (.cells #[.slice (some ⟨u3.heap.size, 0, none⟩) yk.length cK, .slice A3 av.length ca3] 60)
          have bal := below_alloc (Below.refl u4.heap.size u4) (.cells #[.slice (some ⟨u3.heap.size, 0, none⟩) yk.length cK, .slice A3 av.length ca3] 60)
          have hon := q4.on.size
          obtain ⟨v6, u6, hr, hd⟩ := ITN.out.append (ty := 46) b5 SZN.out ⟨yk, av, some ⟨u3.heap.size, 0, none⟩, cK, A3, ca3⟩ (hbk.after bal) ((hb3.after b4).after bal) (fun g o e => by cases e; exact hon) hf3 (Blk.new u4 _ _ rfl) (by have := HXL.out; have := HNX.out; omega)
          have HD := Lib.hid hd
          have hr' : (Builtin.append_ #[46, 46] 46 #[.slice A nx c, .slice (some ⟨u4.heap.size, 0, none⟩) 1 1]).run Try.prog (u4.alloc (.cells #[.slice (some ⟨u3.heap.size, 0, none⟩) yk.length cK, .slice A3 av.length ca3] 60)) = .ok v6 u6 := hr
          clear hd hr b4 b5 bal hbk hlt4 hb3 hf3 q4 Q3 Q hon
          go_wp2_with ((at_builtin; refine Lib.wpList_append_run _ rfl (.tmp 43) (.tmp 48) _ _ rfl _ _ rfl rfl _ _ hr' ?_))
          have RNG6 : u6.ranges Try.prog 9 rawElem mb r K.length D left' cnt' := by
            have hmb := HMB.out
            have hwr := HWR.out
            have hsz := SZN.out
            have hlow : ∀ g, g < r + 1 → (Value.slice A nx c).ownBlock ≠ some g := fun g hg e => by
              have := (ITN.out.row.lt g e).1
              omega
            exact ranges_same QN.out.rng (HD.out.keep mb (by omega) (hlow mb (by omega))) (HD.out.keep r (by omega) (hlow r (by omega)))
          have R6 := Lib.hid RNG6
          clear RNG6 hcv hr'
          go_round
          case rel => exact ⟨left', cnt', X ++ [⟨yk, av, some ⟨u3.heap.size, 0, none⟩, cK, A3, ca3⟩], R6, Lib.hid HD.out.rep, Lib.hid (GTN.out _ EVL.out), LKN, Lib.hid (QN.out.below.trans (HD.out.below.mono (by have := HWR.out; omega))), Lib.hid (by have := HD.out.below.size; have := SZN.out; omega)⟩
          case measure => rw [R6.out.left_eq, HRG.out.left_eq]; exact CN.out

theorem q9_Items (w : World) (gt gm : Nat) (T : TT) (M : PM) (F G : Nat → Prop) (i : Int) (h : RepD w gt gm T M F G) (hT : T.length ≤ 1000) :
    Calls Try.prog 17 #[.pointer (some ⟨gt, 0, none⟩), .int .i64 i] w (ItemsW (tItems T M i) w) := by
  unfold tItems
  by_cases hi : 0 ≤ i ∧ i < T.length
  · rw [if_pos hi]
    obtain ⟨k, rfl⟩ : ∃ k : Nat, i = k := ⟨i.toNat, by omega⟩
    obtain ⟨vl, L, rfl, h', -⟩ := id h.maps
    rw [trM_len] at hi hT
    rw [Int.toNat_natCast, trM_at]
    exact q9_Items_yes w gt gm vl L M F G k h h' (by omega) hT
  · rw [if_neg hi]
    exact q9_Items_no w gt gm T M F i h.maps (by simp; omega)

end Go.Proofs.Ytnnmcfklmmpdaaa


/-
  Layer 9: what a law made itself: systems of blocks (memory, maps), two beside one another in one world, and bytes that stay.
  Conditions: none.
-/
namespace Go.Proofs.Ytnnmcfklmmpdaaa
open Go.RowKit
set_option maxRecDepth 100000
set_option linter.unusedVariables false
set_option linter.unusedSimpArgs false

/-- What lies in blocks of its own. -/
structure Sys where
  R : World → (Nat → Prop) → Prop
  keep : ∀ {w w' : World} {F : Nat → Prop}, R w F → (∀ x, F x → w'.heap[x]? = w.heap[x]?) → R w' F
  lt : ∀ {w : World} {F : Nat → Prop} {x : Nat}, R w F → F x → x < w.heap.size
def sysO : Sys := ⟨fun _ F => ∀ x, ¬ F x, fun h _ => h, fun h c => absurd c (h _)⟩
def sysM (g : Nat) (M : PM) : Sys := ⟨fun w F => RepP w g M F, fun h hs => by
  obtain ⟨vl, L, e, h⟩ := h
  exact ⟨vl, L, e, h.keep hs⟩, fun h c => h.lt c⟩
def sysT (gt gm : Nat) (T : TT) (M : PM) : Sys := ⟨fun w H => ∃ F G, RepD w gt gm T M F G ∧ ∀ x, H x ↔ F x ∨ G x, fun h hs => by
  obtain ⟨F, G, ⟨⟨vl, L, e, h1, h2⟩, ⟨vl2, L2, e2, h3⟩, h4⟩, hH⟩ := h
  exact ⟨F, G, ⟨⟨vl, L, e, h1.keep fun x hx => hs x ((hH x).2 (.inl hx)), h2⟩, ⟨vl2, L2, e2, h3.keep fun x hx => hs x ((hH x).2 (.inr hx))⟩, h4⟩, hH⟩, fun h c => by
  obtain ⟨F, G, h, hH⟩ := h
  rcases (hH _).1 c with c | c
  · exact h.maps.lt c
  · exact h.mem.lt c⟩
/-- A system has become another one, and one answer is told. -/
def OpS (A : Sys) (F : Nat → Prop) (v : Value) (w : World) (e : Ending) (w' : World) : Prop :=
  e = .returned v ∧ ∃ F', A.R w' F' ∧ Turn F w w' ∧ ∀ x, F' x → F x ∨ w.heap.size ≤ x
structure Law (w0 : World) (A B : Sys) (l : List (Option Addr × List Int)) (w : World) : Prop where
  below : Below w0.heap.size w0 w
  rep : ∃ F G, A.R w F ∧ B.R w G ∧ (∀ x, F x → ¬ G x) ∧ (∀ x, F x ∨ G x → w0.heap.size ≤ x) ∧ ∀ p ∈ l, Keep (fun x => F x ∨ G x) w p.1 p.2
theorem law_start (w : World) : Law w sysO sysO [] w := ⟨Below.refl _ _, fun _ => False, fun _ => False, fun _ h => h, fun _ h => h, fun _ h => h.elim, fun _ h => h.elim id id |>.elim, fun p hp => by cases hp⟩
section
variable {w0 w u : World} {A B A' B' : Sys} {l : List (Option Addr × List Int)}
theorem Law.after (h : Law w0 A B l w) (b : Below w.heap.size w u) : Law w0 A B l u := by
  obtain ⟨hb, F, G, hA, hB, hd, hn, hk⟩ := h
  exact ⟨below_next' hb b, F, G, A.keep hA (fun x hx => b.block x (A.lt hA hx)), B.keep hB (fun x hx => b.block x (B.lt hB hx)), hd, hn, fun p hp => (hk p hp).on (Turn.of_below b) (fun x hx => .inl hx)⟩
theorem Law.byt (h : Law w0 A B l w) {C : Option Addr} {b : List Int} (hm : (C, b) ∈ l) : BytS w C b := by
  obtain ⟨hb, F, G, hA, hB, hd, hn, hk⟩ := h
  exact (hk _ hm).at_
theorem Law.drop (h : Law w0 A B l w) {l' : List (Option Addr × List Int)} (hs : ∀ p ∈ l', p ∈ l) : Law w0 A B l' w := by
  obtain ⟨hb, F, G, hA, hB, hd, hn, hk⟩ := h
  exact ⟨hb, F, G, hA, hB, hd, hn, fun p hp => hk p (hs p hp)⟩
/-- Bytes more that stay: the caller's, or new ones. -/
theorem Law.push (h : Law w0 A B l w) (b : Below w.heap.size w u) {C : Option Addr} {x : List Int} (hb : BytS u C x) (hs : ∀ g o, 0 < x.length → C = some ⟨g, o, none⟩ → g < w0.heap.size ∨ w.heap.size ≤ g) : Law w0 A B ((C, x) :: l) u := by
  obtain ⟨hb', F, G, hA, hB, hd, hn, hk⟩ := h
  refine ⟨below_next' hb' b, F, G, A.keep hA (fun x hx => b.block x (A.lt hA hx)), B.keep hB (fun x hx => b.block x (B.lt hB hx)), hd, hn, fun p hp => ?_⟩
  rcases List.mem_cons.1 hp with rfl | hp
  · intro v t hl
    obtain ⟨g, o, e, hg, hc⟩ := hb hl
    have hng : ¬ (F g ∨ G g) := fun c => by
      have h1 := hn g c
      rcases hs g o hl e with c2 | c2
      · omega
      · rcases c with c | c
        · have := A.lt hA c; omega
        · have := B.lt hB c; omega
    exact ⟨g, o, e, Nat.lt_of_lt_of_le hg t.size, fun k hk => (World.cell?_of_block (a := ⟨g, o + k, none⟩) (t.block g hg hng)).trans (hc k hk)⟩
  · exact (hk p hp).on (Turn.of_below b) (fun x hx => .inl hx)
/-- The first system's turn. -/
theorem Law.one {f : FuncId} {args : Array Value} {v : Value} (h : Law w0 A B l w) (H : ∀ F, A.R w F → (∀ p ∈ l, Keep F w p.1 p.2) → (∀ x, F x → w0.heap.size ≤ x) → Calls Try.prog f args w (OpS A' F v w)) :
    Calls Try.prog f args w (fun e w' => e = .returned v ∧ Law w0 A' B l w') := by
  obtain ⟨hb, F, G, hA, hB, hd, hn, hk⟩ := h
  refine (H F hA (fun p hp u t => hk p hp u (t.mono fun x hx => .inl (.inl hx))) (fun x hx => hn x (.inl hx))).mono ?_
  rintro e w' ⟨he, F', hA', t, hf⟩
  have hsz := hb.size
  refine ⟨he, Turn.on hb t hsz (fun x hx => hn x (.inl hx)), F', G, hA', B.keep hB (fun x hx => t.block x (B.lt hB hx) (fun c => hd x c hx)), fun x hx hG => ?_, fun x hx => ?_, fun p hp => ?_⟩
  · rcases hf x hx with c | c
    · exact hd x c hG
    · have := B.lt hB hG; omega
  · rcases hx with hx | hx
    · rcases hf x hx with c | c
      · exact hn x (.inl c)
      · omega
    · exact hn x (.inr hx)
  · refine (hk p hp).on (t.mono fun x hx => .inl (.inl hx)) (fun x hx => ?_)
    rcases hx with hx | hx
    · exact (hf x hx).imp .inl id
    · exact .inl (.inr hx)
theorem Law.swap (h : Law w0 A B l w) : Law w0 B A l w := by
  obtain ⟨hb, F, G, hA, hB, hd, hn, hk⟩ := h
  exact ⟨hb, G, F, hB, hA, fun x hG hF => hd x hF hG, fun x hx => hn x hx.symm, fun p hp => (hk p hp).on (Turn.refl _ _) (fun x hx => .inl hx.symm)⟩
theorem Law.two {f : FuncId} {args : Array Value} {v : Value} (h : Law w0 A B l w) (H : ∀ F, B.R w F → (∀ p ∈ l, Keep F w p.1 p.2) → (∀ x, F x → w0.heap.size ≤ x) → Calls Try.prog f args w (OpS B' F v w)) :
    Calls Try.prog f args w (fun e w' => e = .returned v ∧ Law w0 A B' l w') :=
  (h.swap.one H).mono fun e w' ⟨he, hl⟩ => ⟨he, hl.swap⟩
end
/-! The program's calls. -/
section
variable {w0 w : World} {B : Sys} {l : List (Option Addr × List Int)} {gt gm : Nat} {T : TT} {M : PM}
theorem opT_put {r : TP} {F G H : Nat → Prop} {e : Ending} {w' : World} (hH : ∀ x, H x ↔ F x ∨ G x) (h : PutQ gt gm F G r w e w') : OpS (sysT gt gm r.T r.M) H (.tuple #[.int .u64 r.n, .int .i64 r.e]) w e w' := by
  obtain ⟨he, F', G', h1, h2, h3, h4⟩ := h
  refine ⟨he, fun x => F' x ∨ G' x, ⟨F', G', h1, fun x => Iff.rfl⟩, h2.mono (fun x hx => .inl ((hH x).2 hx)), fun x hx => ?_⟩
  rcases hx with c | c
  · exact (h3 x c).imp (fun d => (hH x).2 (.inl d)) id
  · exact (h4 x c).imp (fun d => (hH x).2 (.inr d)) id
theorem lt_Put (i : Int) (key val : List Int) (C D : Option Addr) (n d m c : Nat) (fl : Int) (h : Law w0 (sysT gt gm T M) B l w) (hT1 : T.length ≤ 1000) (hk : (C, key) ∈ l) (hok : OkB key) (hn : key.length = n) (hnd : n ≤ d) (hdm : d ≤ maxLen) (hv : (D, val) ∈ l) (hov : OkB val) (hvn : val.length = m) (hmc : m ≤ c) (hcm : c ≤ maxLen) (hfl : 0 ≤ fl ∧ fl ≤ 18446744073709551615) (hM : M.length ≤ 100000) :
    Calls Try.prog 25 #[.pointer (some ⟨gt, 0, none⟩), .int .i64 i, .slice C n d, .slice D m c, .int .u64 fl] w (fun e w' => e = .returned (.tuple #[.int .u64 (tPut T M i key val fl).n, .int .i64 (tPut T M i key val fl).e]) ∧ Law w0 (sysT gt gm (tPut T M i key val fl).T (tPut T M i key val fl).M) B l w') :=
  h.one fun H hR hK hlow => by
    obtain ⟨F, G, hD, hH⟩ := hR
    have kk : ∀ {C : Option Addr} {x : List Int}, (C, x) ∈ l → Keep (fun x => F x ∨ G x) w C x := fun hm u t => hK _ hm u (t.mono fun x hx => .inl ((hH x).2 hx))
    exact (q9_Put w gt gm T M F G i key val C D n d m c fl hD hT1 (kk hk) hok hn hnd hdm (kk hv) hov hvn hmc hcm hfl hM).mono fun e w' hw => opT_put hH hw
theorem lt_Drop (i : Int) (key : List Int) (C : Option Addr) (n d : Nat) (h : Law w0 (sysT gt gm T M) B l w) (hT1 : T.length ≤ 1000) (hk : (C, key) ∈ l) (hok : OkB key) (hn : key.length = n) (hnd : n ≤ d) (hdm : d ≤ maxLen) :
    Calls Try.prog 23 #[.pointer (some ⟨gt, 0, none⟩), .int .i64 i, .slice C n d] w (fun e w' => e = .returned (.tuple #[.int .u64 (tDrop T i key).2.1, .int .i64 (tDrop T i key).2.2]) ∧ Law w0 (sysT gt gm (tDrop T i key).1 M) B l w') :=
  h.one fun H hR hK hlow => by
    obtain ⟨F, G, hD, hH⟩ := hR
    refine (q9_Drop w gt gm T F i key C n d hD.maps hT1 (hK _ hk).at_ hok hn hnd hdm).mono ?_
    rintro e w' ⟨he, F', h1, h2, h3⟩
    refine ⟨he, fun x => F' x ∨ G x, ⟨F', G, ⟨h1, ?_, fun x hx hG => ?_⟩, fun x => Iff.rfl⟩, h2.mono (fun x hx => .inl ((hH x).2 (.inl hx))), fun x hx => ?_⟩
    · obtain ⟨vl2, L2, e2, h4⟩ := hD.mem
      exact ⟨vl2, L2, e2, h4.keep fun x hx => h2.block x (h4.lt hx) (fun c => hD.apart x c hx)⟩
    · rcases h3 x hx with c | c
      · exact hD.apart x c hG
      · have := hD.mem.lt hG; omega
    · rcases hx with c | c
      · exact (h3 x c).imp (fun d => (hH x).2 (.inl d)) id
      · exact .inl ((hH x).2 (.inr c))
theorem lt_Look (i : Int) (key : List Int) (C : Option Addr) (n d : Nat) (h : Law w0 (sysT gt gm T M) B l w) (hT1 : T.length ≤ 1000) (hk : (C, key) ∈ l) (hok : OkB key) (hn : key.length = n) (hnd : n ≤ d) (hdm : d ≤ maxLen) :
    Calls Try.prog 24 #[.pointer (some ⟨gt, 0, none⟩), .int .i64 i, .slice C n d] w (Gives (.tuple #[.int .u64 (tLook T i key).1, .int .i64 (tLook T i key).2]) w) := by
  have hb := h.byt hk
  obtain ⟨_, H, _, ⟨F, G, hD, _⟩, _⟩ := h
  exact q9_Look w gt gm T F i key C n d hD.maps hT1 hb hok hn hnd hdm
theorem lt_Items (i : Int) (h : Law w0 (sysT gt gm T M) B l w) (hT1 : T.length ≤ 1000) :
    Calls Try.prog 17 #[.pointer (some ⟨gt, 0, none⟩), .int .i64 i] w (ItemsW (tItems T M i) w) := by
  obtain ⟨_, H, _, ⟨F, G, hD, _⟩, _⟩ := h
  exact q9_Items w gt gm T M F G i hD hT1
theorem lt_Store (at_ s n : Int) (h : Law w0 (sysT gt gm T M) B l w) (ha : 0 ≤ at_ ∧ at_ ≤ 18446744073709551615) (hn : 0 ≤ n ∧ n ≤ 18446744073709551615) :
    Calls Try.prog 29 #[.pointer (some ⟨gm, 0, none⟩), .int .u64 at_, .int .i64 s, .int .u64 n] w (fun e w' => e = .returned (.int .i64 (pStore M at_ s n).2) ∧ Law w0 (sysT gt gm T (pStore M at_ s n).1) B l w') :=
  h.one fun H hR hK hlow => by
    obtain ⟨F, G, hD, hH⟩ := hR
    refine (c8_Store w gm M G at_ s n hD.mem ha hn).mono ?_
    rintro e w' ⟨he, G', h1, h2, h3⟩
    refine ⟨he, fun x => F x ∨ G' x, ⟨F, G', ⟨hD.maps.turn h2 (fun x hF hG => hD.apart x hF hG), h1, fun x hx hG => ?_⟩, fun x => Iff.rfl⟩, h2.mono (fun x hx => .inl ((hH x).2 (.inr hx))), fun x hx => ?_⟩
    · rcases h3 x hG with c | c
      · exact hD.apart x hx c
      · have := hD.maps.lt hx; omega
    · rcases hx with c | c
      · exact .inl ((hH x).2 (.inl c))
      · exact (h3 x c).imp (fun d => (hH x).2 (.inr d)) id
theorem lt_Load (at_ s : Int) (h : Law w0 (sysT gt gm T M) B l w) (ha : 0 ≤ at_ ∧ at_ ≤ 18446744073709551615) :
    Calls Try.prog 28 #[.pointer (some ⟨gm, 0, none⟩), .int .u64 at_, .int .i64 s] w (Gives (.tuple #[.int .u64 (pLoad M at_ s).1, .int .i64 (pLoad M at_ s).2]) w) := by
  obtain ⟨_, H, _, ⟨F, G, hD, _⟩, _⟩ := h
  exact c8_Load w gm M G at_ s hD.mem ha
theorem lt_Area (i : Int) (h : Law w0 (sysT gt gm T M) B l w) (hi : -9223372036854775808 ≤ i ∧ i ≤ 9223372036854775807) :
    Calls Try.prog 19 #[.pointer (some ⟨gm, 0, none⟩), .int .i64 i] w
      (fun e w' => ∃ A c, e = .returned (.tuple #[.slice A (pArea M i).1.length c, .bool (pArea M i).2]) ∧ BytS w' A (pArea M i).1 ∧ (pArea M i).1.length ≤ c ∧ c ≤ maxLen ∧ Below w.heap.size w w' ∧ ∀ g o, A = some ⟨g, o, none⟩ → w.heap.size ≤ g) := by
  obtain ⟨_, H, _, ⟨F, G, hD, _⟩, _⟩ := h
  exact c8_AreaN w gm M G i hD.mem hi
theorem Law.okT (h : Law w0 (sysT gt gm T M) B l w) : TFull T ∧ PMok M := by
  obtain ⟨_, H, _, ⟨F, G, hD, _⟩, _⟩ := h
  obtain ⟨vl, L, rfl, _, h2, _⟩ := hD.maps
  exact ⟨h2, hD.mem.ok⟩
/-- Memory, new. -/
theorem lt_Mem (h : Law w0 sysO B l w) : Calls Try.prog 9 #[] w (fun e w' => ∃ g, e = .returned (.pointer (some ⟨g, 0, none⟩)) ∧ Law w0 (sysM g []) B l w') :=
  (c8_New w).mono fun e w' ⟨g, F, he, h1, h2, h3⟩ => by
    refine ⟨g, he, ?_⟩
    have h' := h.after h2
    obtain ⟨hb, F0, G, hA, hB, hd, hn, hk⟩ := h
    have hB' : B.R w' G := B.keep hB (fun x hx => h2.block x (B.lt hB hx))
    have hsz := hb.size
    refine ⟨below_next' hb h2, F, G, h1, hB', fun x hx hG => ?_, fun x hx => ?_, fun p hp => ?_⟩
    · have := h3 x hx; have := B.lt hB hG; omega
    · rcases hx with c | c
      · have := h3 x c; omega
      · exact hn x (.inr c)
    · refine (hk p hp).on (Turn.of_below h2) (fun x hx => ?_)
      rcases hx with c | c
      · exact .inr (h3 x c)
      · exact .inl (.inr c)
/-- Maps, new. -/
theorem lt_New (D : List Df) (C : Option Addr) (n c : Nat) {u : World} (h : Law w0 (sysM gm M) B l w) (b : Below w.heap.size w u) (hl : DefS u C D) (hs : ∀ g o, C = some ⟨g, o, none⟩ → g < w0.heap.size ∨ w.heap.size ≤ g) (hn : D.length = n) (hc : n ≤ c) (hcm : c ≤ maxLen) (hM : M.length ≤ 40000) :
    Calls Try.prog 10 #[.pointer (some ⟨gm, 0, none⟩), .slice C n c] u (fun e w' => match (tNew M D).2 with
      | none => e = .returned (.tuple #[.pointer none, .int .i64 1]) ∧ Law w0 (sysM gm (tNew M D).1) B l w'
      | some T => ∃ gt, e = .returned (.tuple #[.pointer (some ⟨gt, 0, none⟩), .int .i64 0]) ∧ Law w0 (sysT gt gm T (tNew M D).1) B l w') := by
  have h' := h.after b
  obtain ⟨hb0, F0, G0, hA0, hB0, hd0, hn0, hk0⟩ := h
  obtain ⟨hb, F, G, hA, hB, hd, hn', hk⟩ := h'
  have hlt0 : ∀ x, F0 x → x < w.heap.size := fun x hx => RepP.lt hA0 hx
  have hA1 : RepP u gm M F0 := (sysM gm M).keep hA0 (fun x hx => b.block x (hlt0 x hx))
  have hB1 : B.R u G0 := B.keep hB0 (fun x hx => b.block x (B.lt hB0 hx))
  have hsz := hb.size
  have hwu := b.size
  refine (q9_New u gm M F0 D C n c hA1 (fun v t hp => ?_) hn hc hcm hM).mono ?_
  · obtain ⟨g, o, e, hg, hcc⟩ := hl hp
    have hng : ¬ F0 g := fun c => by
      rcases hs g o e with c2 | c2
      · have := hn0 g (.inl c); omega
      · have := hlt0 g c; omega
    have q : ∀ p, v.cell? ⟨g, p, none⟩ = u.cell? ⟨g, p, none⟩ := fun p => World.cell?_of_block (a := ⟨g, p, none⟩) (t.block g hg hng)
    exact ⟨g, o, e, Nat.lt_of_lt_of_le hg t.size, fun k hk => by rw [q, q, q, q]; exact hcc k hk⟩
  · rintro e w' ⟨G', t, hf, hm⟩
    have common : ∀ (A' : Sys) (F' : Nat → Prop), A'.R w' F' → (∀ x, F' x → F0 x ∨ u.heap.size ≤ x) → Law w0 A' B l w' := fun A' F' hA' hf' => by
      refine ⟨Turn.on hb t hsz (fun x hx => hn0 x (.inl hx)), F', G0, hA', B.keep hB1 (fun x hx => t.block x (B.lt hB1 hx) (fun c => hd0 x c hx)), fun x hx hG => ?_, fun x hx => ?_, fun p hp => ?_⟩
      · rcases hf' x hx with c | c
        · exact hd0 x c hG
        · have := B.lt hB1 hG; omega
      · rcases hx with hx | hx
        · rcases hf' x hx with c | c
          · exact hn0 x (.inl c)
          · omega
        · exact hn0 x (.inr hx)
      · refine ((hk0 p hp).on (Turn.of_below b) (fun x hx => .inl hx)).on (t.mono fun x hx => .inl (.inl hx)) (fun x hx => ?_)
        rcases hx with hx | hx
        · exact (hf' x hx).imp .inl id
        · exact .inl (.inr hx)
    cases hr : (tNew M D).2 with
    | none =>
      rw [hr] at hm
      exact ⟨hm.1, common (sysM gm _) G' hm.2 hf⟩
    | some T =>
      rw [hr] at hm
      obtain ⟨gt, F', he, hD, hnew⟩ := hm
      exact ⟨gt, he, common (sysT gt gm T _) (fun x => F' x ∨ G' x) ⟨F', G', hD, fun x => Iff.rfl⟩ (fun x hx => hx.elim (fun c => .inr (hnew x c)) (hf x))⟩
end

end Go.Proofs.Ytnnmcfklmmpdaaa


/-
  Layer 9: the statements' own shown: the document's examples.
  Conditions: none.
-/
namespace Go.Proofs.Ytnnmcfklmmpdaaa
open Go.RowKit
set_option maxRecDepth 100000
set_option linter.unusedVariables false
set_option linter.unusedSimpArgs false

theorem byt_new (u : World) (b : List Int) {g : Nat} (hg : g = u.heap.size) : BytS (u.alloc (.cells (byC b).toArray 5)) (some ⟨g, 0, none⟩) b := fun hl => by
  have hB : Blk g (byC b).toArray 5 (u.alloc (.cells (byC b).toArray 5)) := Blk.new u _ _ hg
  exact ⟨g, 0, rfl, hB.lt, fun k hk => by rw [hB.cell, Nat.zero_add, List.getElem?_toArray, byC_at _ hk]⟩
theorem l9_val (n : Int) (w : World) : Calls Try.prog 27 #[.int .u8 n] w (fun e w' => e = .returned (.slice (some ⟨w.heap.size, 0, none⟩) 8 8) ∧ BytS w' (some ⟨w.heap.size, 0, none⟩) (List.replicate 8 n) ∧ Below w.heap.size w w') := by
  have HB := Lib.hid (byt_new w (List.replicate 8 n) rfl)
  go_enter Try.func27, Try.ntmps27
  go_wp2_with fail
  go_ret
  exact ⟨rfl, HB.out, below_alloc (Below.refl _ _) _⟩
/-- One byte, laid. -/
theorem Law.lay {w0 w : World} {A B : Sys} {l : List (Option Addr × List Int)} (h : Law w0 A B l w) (b : List Int) : Law w0 A B ((some ⟨w.heap.size, 0, none⟩, b) :: l) (w.alloc (.cells (byC b).toArray 5)) :=
  h.push (below_alloc (Below.refl _ _) _) (byt_new w b rfl) (fun g o _ e => by cases e; exact .inr (Nat.le_refl _))
/-- Rows of bytes more that stay. -/
theorem Law.pushes {w0 w u : World} {A B : Sys} {l : List (Option Addr × List Int)} (h : Law w0 A B l w) (b : Below w.heap.size w u) (l2 : List (Option Addr × List Int)) (H : ∀ p ∈ l2, BytS u p.1 p.2 ∧ ∀ g o, 0 < p.2.length → p.1 = some ⟨g, o, none⟩ → g < w0.heap.size ∨ w.heap.size ≤ g) : Law w0 A B (l2 ++ l) u := by
  have h' := h.after b
  obtain ⟨hb1, F1, G1, hA1, hB1, hd1, hn1, hk1⟩ := h'
  obtain ⟨hb', F, G, hA, hB, hd, hn, hk⟩ := h
  refine ⟨hb1, F, G, A.keep hA (fun x hx => b.block x (A.lt hA hx)), B.keep hB (fun x hx => b.block x (B.lt hB hx)), hd, hn, fun p hp => ?_⟩
  rcases List.mem_append.1 hp with hp | hp
  · intro v t hl
    obtain ⟨g, o, e, hg, hc⟩ := (H p hp).1 hl
    have hng : ¬ (F g ∨ G g) := fun c => by
      have h1 := hn g c
      rcases (H p hp).2 g o hl e with c2 | c2
      · omega
      · rcases c with c | c
        · have := A.lt hA c; omega
        · have := B.lt hB c; omega
    exact ⟨g, o, e, Nat.lt_of_lt_of_le hg t.size, fun k hk => (World.cell?_of_block (a := ⟨g, o + k, none⟩) (t.block g hg hng)).trans (hc k hk)⟩
  · exact (hk p hp).on (Turn.of_below b) (fun x hx => .inl hx)
theorem okB_one {x : Int} (h : 0 ≤ x ∧ x ≤ 255) : OkB [x] := fun k hk => by
  have : k = 0 := by simpa using hk
  subst this
  exact h
theorem okB_rep {x : Int} (n : Nat) (h : 0 ≤ x ∧ x ≤ 255) : OkB (List.replicate n x) := fun k hk => by
  unfold bAt
  rw [List.length_replicate] at hk
  rw [List.getD_eq_getElem?_getD, List.getElem?_replicate, if_pos hk]
  exact h

def shD : Df := ⟨true, 1, 8, 1⟩
def shV : List Int := List.replicate 8 1
def shM : PM := [⟨4096, shV, List.replicate 8 false, false⟩]
def shT0 : TT := [⟨shD, [], 0⟩]
def shT1 : TT := [⟨shD, [⟨[5], 0⟩], 1⟩]
def shT2 : TT := [⟨shD, [], 1⟩]
theorem defS_one {u : World} {g : Nat} {h : Bool} {k v m : Int} (hb : Blk g #[.bool h, .int .i64 k, .int .i64 v, .int .i64 m] 53 u) : DefS u (some ⟨g, 0, none⟩) [⟨h, k, v, m⟩] := fun _ => ⟨g, 0, rfl, hb.lt, fun j hj => by
  have : j = 0 := by simpa using hj
  subst this
  exact ⟨hb.cell 0, hb.cell 1, hb.cell 2, hb.cell 3⟩⟩

set_option maxHeartbeats 4000000 in
theorem l9_shown (w : World) : Calls Try.prog 8 #[] w (Gives (.bool true) w) := by
  have N := Lib.hid (lt_Mem (law_start w))
  have VA := Lib.hid (l9_val 1)
  have NW := Lib.hid fun (u u' : World) (g : Nat) (h : Law w (sysM g []) sysO [] u) (b : Below u.heap.size u u') (C : Option Addr) (hl : DefS u' C [shD]) hs => lt_New [shD] C 1 1 h b hl hs rfl (Nat.le_refl _) (by unfold maxLen; omega) (by simp)
  rw [show tNew [] [shD] = ([], some shT0) by kernel_rfl] at NW
  dsimp only at NW
  have P1 := Lib.hid fun (u : World) (gt g : Nat) C D l (h : Law w (sysT gt g shT0 []) sysO l u) hk hv => lt_Put 0 [5] shV C D 1 1 8 8 0 h (by decide) hk (okB_one (by omega)) rfl (Nat.le_refl _) (by unfold maxLen; omega) hv (okB_rep 8 (by omega)) rfl (Nat.le_refl _) (by unfold maxLen; omega) (by omega) (by simp)
  rw [show tPut shT0 [] 0 [5] shV 0 = ⟨shT1, shM, 0, 0⟩ by kernel_rfl] at P1
  have P2 := Lib.hid fun (u : World) (gt g : Nat) C D l (h : Law w (sysT gt g shT1 shM) sysO l u) hk hv => lt_Put 0 [6] shV C D 1 1 8 8 0 h (by decide) hk (okB_one (by omega)) rfl (Nat.le_refl _) (by unfold maxLen; omega) hv (okB_rep 8 (by omega)) rfl (Nat.le_refl _) (by unfold maxLen; omega) (by omega) (by decide)
  rw [show tPut shT1 shM 0 [6] shV 0 = ⟨shT1, shM, 18446744073709551609, 0⟩ by kernel_rfl] at P2
  have L1 := Lib.hid fun (u : World) (gt g : Nat) C l (h : Law w (sysT gt g shT1 shM) sysO l u) hk => lt_Look 0 [6] C 1 1 h (by decide) hk (okB_one (by omega)) rfl (Nat.le_refl _) (by unfold maxLen; omega)
  rw [show tLook shT1 0 [6] = (0, 0) by kernel_rfl] at L1
  have D1 := Lib.hid fun (u : World) (gt g : Nat) C l (h : Law w (sysT gt g shT1 shM) sysO l u) hk => lt_Drop 0 [5] C 1 1 h (by decide) hk (okB_one (by omega)) rfl (Nat.le_refl _) (by unfold maxLen; omega)
  rw [show tDrop shT1 0 [5] = (shT2, 0, 0) by kernel_rfl] at D1
  have D2 := Lib.hid fun (u : World) (gt g : Nat) C l (h : Law w (sysT gt g shT2 shM) sysO l u) hk => lt_Drop 0 [5] C 1 1 h (by decide) hk (okB_one (by omega)) rfl (Nat.le_refl _) (by unfold maxLen; omega)
  rw [show tDrop shT2 0 [5] = (shT2, 18446744073709551614, 0) by kernel_rfl] at D2
  dsimp only at P1 P2 L1 D1 D2
  go_enter Try.func8, Try.ntmps8
  go_wp2_with fail
  refine (N.out).mono ?_
  rintro e w1 ⟨g, rfl, q1⟩
  have N2 := Lib.hid (NW.out w1 _ g q1 (below_alloc (Below.refl _ _) (.cells #[.bool true, .int .i64 1, .int .i64 8, .int .i64 1] 53)) (some ⟨w1.heap.size, 0, none⟩) (defS_one (Blk.new w1 _ _ rfl)) (fun g o e => by cases e; exact .inr (Nat.le_refl _)))
  clear q1 N NW
  go_wp2_with fail
  refine (N2.out).mono ?_
  rintro e w2 ⟨gt, rfl, q⟩
  have Q := Lib.hid (q.lay [5])
  clear q N2
  go_wp2_with fail
  refine (VA.out _).mono ?_
  rintro e w3 ⟨rfl, hb, b⟩
  replace Q := Lib.hid (Q.out.push b hb (fun g o _ e => by cases e; exact .inr (Nat.le_refl _)))
  clear hb b
  go_wp2_with fail
  refine (P1.out _ _ _ _ _ _ Q.out (by simp) (by simp [shV])).mono ?_
  rintro e w4 ⟨rfl, q⟩
  replace Q := Lib.hid ((q.drop (l' := []) (fun p hp => by cases hp)).lay [6])
  clear q P1
  go_wp2_with fail
  refine (VA.out _).mono ?_
  rintro e w5 ⟨rfl, hb, b⟩
  replace Q := Lib.hid (Q.out.push b hb (fun g o _ e => by cases e; exact .inr (Nat.le_refl _)))
  clear hb b
  go_wp2_with fail
  refine (P2.out _ _ _ _ _ _ Q.out (by simp) (by simp [shV])).mono ?_
  rintro e w6 ⟨rfl, q⟩
  replace Q := Lib.hid ((q.drop (l' := []) (fun p hp => by cases hp)).lay [6])
  clear q P2
  go_wp2_with fail
  refine (L1.out _ _ _ _ _ Q.out (by simp)).mono ?_
  rintro e w7 ⟨rfl, b⟩
  replace Q := Lib.hid (((Q.out.after b).drop (l' := []) (fun p hp => by cases hp)).lay [5])
  clear b L1
  go_wp2_with fail
  refine (D1.out _ _ _ _ _ Q.out (by simp)).mono ?_
  rintro e w8 ⟨rfl, q⟩
  replace Q := Lib.hid ((q.drop (l' := []) (fun p hp => by cases hp)).lay [5])
  clear q D1
  go_wp2_with fail
  refine (D2.out _ _ _ _ _ Q.out (by simp)).mono ?_
  rintro e w9 ⟨rfl, q⟩
  replace Q := Lib.hid q
  clear q D2
  go_wp2_with fail
  go_ret
  exact ⟨rfl, Q.out.below⟩

end Go.Proofs.Ytnnmcfklmmpdaaa


/-
  Layer 9, plain: what memory holds behind what was made, stored, put. No program is named here.
  Conditions: none.
-/
namespace Go.Proofs.Ytnnmcfklmmpdaaa
open Go Go.RowKit
set_option maxRecDepth 100000
set_option linter.unusedVariables false
set_option linter.unusedSimpArgs false

/-- The area of a number. -/
def gA (M : PM) (i : Int) : Option PA := (pIx M i).map (pAt M)
theorem area_gA (M : PM) (i : Int) : pArea M i = match gA M i with | none => ([], false) | some a => (a.b, true) := by
  unfold pArea gA
  cases pIx M i <;> rfl
theorem gA_app (M : PM) (a : PA) (i : Int) : gA (M ++ [a]) i = match gA M i with | some x => some x | none => if a.id = i then some a else none := by
  unfold gA
  rw [pIx_app]
  cases h : pIx M i with
  | some k =>
    have := (pIx_some h).1
    simp only [Option.map_some]
    rw [pAt_app, if_pos this]
  | none =>
    simp only [Option.map_none]
    split
    · simp only [Option.map_some]
      rw [pAt_app, if_neg (by omega), if_pos rfl]
    · rfl
theorem make_ok {M : PM} {id : Int} {b : List Int} {bl fx : Bool} (h1 : 1 ≤ id ∧ id < 2147483648) (h2 : gA M id = none) (h3 : b.length ≤ 1024) : pMake M id b bl fx = (M ++ [⟨id, b, List.replicate b.length bl, fx⟩], 0) := by
  have hx : pIx M id = none := by unfold gA at h2; simpa using h2
  unfold pMake
  rw [if_neg (by rw [hx]; intro c; rcases c with c | c | c <;> first | omega | cases c), if_neg (by omega)]
theorem gA_make {M : PM} {id : Int} {b : List Int} {bl fx : Bool} (h2 : gA M id = none) (j : Int) : gA (M ++ [⟨id, b, List.replicate b.length bl, fx⟩]) j = if j = id then some ⟨id, b, List.replicate b.length bl, fx⟩ else gA M j := by
  rw [gA_app]
  by_cases e : j = id
  · subst e; rw [h2, if_pos rfl]; try simp
  · rw [if_neg e]
    cases gA M j with
    | some x => rfl
    | none => simp only; rw [if_neg (fun c => e c.symm)]
theorem gA_make_other {M : PM} {id : Int} {b : List Int} {bl fx : Bool} {j : Int} (e : j ≠ id) : gA (pMake M id b bl fx).1 j = gA M j := by
  unfold pMake
  split
  · rfl
  · split
    · rfl
    · simp only
      rw [gA_app]
      cases gA M j with
      | some x => rfl
      | none => simp only; rw [if_neg (fun c => e c.symm)]
theorem pIx_set {M : PM} {k : Nat} {a : PA} (hk : k < M.length) (hid : a.id = (pAt M k).id) (i : Int) : pIx (M.set k a) i = pIx M i := by
  refine pIx_ids ?_ i
  rw [List.map_set]
  apply List.ext_getElem?
  intro j
  rw [List.getElem?_set]
  by_cases e : k = j
  · subst e
    rw [if_pos rfl, if_pos (by simpa using hk), List.getElem?_map, pAt_get hk, hid]; try rfl
  · rw [if_neg e]
theorem gA_set {M : PM} {k : Nat} {a : PA} {i : Int} (hx : pIx M i = some k) (hid : a.id = i) (j : Int) : gA (M.set k a) j = if j = i then some a else gA M j := by
  obtain ⟨hk, h1, h2⟩ := pIx_some hx
  unfold gA
  rw [pIx_set hk (by rw [hid, h1])]
  by_cases e : j = i
  · subst e; rw [hx, if_pos rfl]; simp only [Option.map_some]; rw [pAt_set hk, if_pos rfl]
  · rw [if_neg e]
    cases h : pIx M j with
    | none => rfl
    | some k' =>
      simp only [Option.map_some]
      rw [pAt_set hk, if_neg (fun c => by subst c; exact e ((pIx_some h).2.1.symm.trans h1))]
theorem gA_store_other {M : PM} {i : Int} {o s : Nat} {n : Int} (hi : 0 ≤ i ∧ i < 2147483648) (ho : (o : Int) < 4294967296) {j : Int} (e : j ≠ i) : gA (pStore M (atI i o) s n).1 j = gA M j := by
  cases hf : fitsZ (s : Int)
  · unfold pStore; rw [hf, if_neg Bool.false_ne_true]
  · cases hx : pIx M i with
    | none =>
      unfold pStore
      rw [hf, if_pos rfl, pWh_no hx hi ho]
    | some k =>
      rw [pStore_of hx hi ho hf]
      simp only
      split
      · have hid : (stA (pAt M k) o s n).1.id = i := by
          have := (pIx_some hx).2.1
          unfold stA
          split
          · split <;> exact this
          · exact this
        rw [gA_set hx hid, if_neg e]
      · rfl
theorem gA_store {M : PM} {i : Int} {o s : Nat} {n : Int} {a : PA} (hi : 0 ≤ i ∧ i < 2147483648) (ho : (o : Int) < 4294967296) (hf : fitsZ (s : Int) = true) (ha : gA M i = some a) (hl : o + s ≤ a.b.length) (hfx : a.fx = false) : pStore M (atI i o) s n = ((pStore M (atI i o) s n).1, 0) ∧ ∀ j, gA (pStore M (atI i o) s n).1 j = if j = i then some (paSet a o s n) else gA M j := by
  cases hx : pIx M i with
  | none => unfold gA at ha; rw [hx] at ha; cases ha
  | some k =>
    have hak : pAt M k = a := by unfold gA at ha; rw [hx] at ha; exact Option.some.inj ha
    have hid : a.id = i := by rw [← hak]; exact (pIx_some hx).2.1
    have hst : stA (pAt M k) o s n = (paSet a o s n, 0) := by
      rw [hak]
      unfold stA
      rw [if_pos hl, if_neg (by rw [hfx]; exact Bool.false_ne_true)]
    rw [pStore_of hx hi ho hf, hst]
    refine ⟨rfl, fun j => ?_⟩
    have e : gA (M.set k (paSet a o s n)) j = if j = i then some (paSet a o s n) else gA M j := gA_set (a := paSet a o s n) hx hid j
    exact e
theorem gA_fill_other {i s : Nat} (hi : i ≤ 1000) (hs : s ≤ 1024) {j : Int} (e : j ≠ tArea i s) : ∀ (val : List Int) (M : PM) (k : Nat), k + val.length ≤ 2000 → gA (tFill M i s k val) j = gA M j := by
  intro val
  induction val with
  | nil => intro M k _; rfl
  | cons x l ih =>
    intro M k hk
    simp only [List.length_cons] at hk
    show gA (tFill (pStore M (atI (tArea i s) k) 1 x).1 i s (k + 1) l) j = _
    rw [ih _ _ (by omega)]
    exact gA_store_other (s := 1) (by unfold tArea; omega) (by omega) e
theorem putN_all {α : Type} {b l : List α} (h : l.length = b.length) : putN b 0 l = l := by
  apply List.ext_getElem?
  intro k
  rw [putN_get l b 0 k (by omega), if_neg (by omega)]
  by_cases hk : k < 0 + l.length
  · rw [if_pos hk]; rfl
  · rw [if_neg hk, List.getElem?_eq_none (by omega), List.getElem?_eq_none (by omega)]
theorem gA_fill {i s : Nat} (hi : i ≤ 1000) (hs : s ≤ 1024) : ∀ (val : List Int) (M : PM) (a : PA) (k : Nat), OkB val → gA M (tArea i s) = some a → k + val.length ≤ a.b.length → a.b.length ≤ 1024 → a.fx = false → gA (tFill M i s k val) (tArea i s) = some ⟨a.id, putN a.b k val, putN a.bl k (List.replicate val.length false), false⟩ := by
  intro val
  induction val with
  | nil =>
    intro M a k _ ha _ _ hfx
    show gA M (tArea i s) = _
    rw [ha]
    obtain ⟨id, b, bl, fx⟩ := a
    simp only at hfx
    subst hfx
    rfl
  | cons x l ih =>
    intro M a k hok ha hl hb hfx
    obtain ⟨hx, hok2⟩ := okB_cons hok
    simp only [List.length_cons] at hl
    have hst := gA_store (M := M) (i := tArea i s) (o := k) (s := 1) (n := x) (by unfold tArea; omega) (by omega) rfl ha (by omega) hfx
    have h1 : leB x 1 = [x] := by
      show [x % 256] = [x]
      rw [Int.emod_eq_of_lt hx.1 (by omega)]
    have h2 := hst.2 (tArea i s)
    rw [if_pos rfl] at h2
    have h3 := ih (pStore M (atI (tArea i s) k) 1 x).1 (paSet a k 1 x) (k + 1) hok2 h2 (by unfold paSet; simp only; rw [putN_len]; omega) (by unfold paSet; simp only; rw [putN_len]; exact hb) hfx
    show gA (tFill (pStore M (atI (tArea i s) k) 1 x).1 i s (k + 1) l) (tArea i s) = _
    rw [h3]
    unfold paSet
    rw [h1]
    simp only [List.length_cons, List.replicate_succ, putN, List.replicate_zero]
theorem tArea_inj {i j s t : Int} (hs : 0 ≤ s ∧ s < 1024) (ht : 0 ≤ t ∧ t < 1024) (h : tArea i s = tArea j t) : i = j ∧ s = t := by
  unfold tArea at h
  omega

/-- Maps and memory that go together. -/
structure Inv (T : TT) (M : PM) : Prop where
  ok : TOk T
  slots : ∀ i, i < T.length → ∀ y ∈ (mt T i).L, ∀ z ∈ (mt T i).L, y.s = z.s → y.k = z.k
  have_ : ∀ i, i < T.length → ∀ s : Nat, s < (mt T i).made → ∃ a, gA M (tArea i s) = some a ∧ (a.b.length : Int) = (mt T i).d.val ∧ a.fx = false ∧ a.bl = List.replicate a.b.length false
  none_ : ∀ i, i < T.length → ∀ s : Nat, (mt T i).made ≤ s → s < 1024 → gA M (tArea i s) = none
  few : T.length ≤ 8

end Go.Proofs.Ytnnmcfklmmpdaaa


/-
  Layer 9, plain: maps and memory that go together stay so, whatever is put or dropped.
  Conditions: none.
-/
namespace Go.Proofs.Ytnnmcfklmmpdaaa
open Go Go.RowKit
set_option maxRecDepth 100000
set_option linter.unusedVariables false
set_option linter.unusedSimpArgs false

open Classical in
theorem slots_ok {i v : Nat} (hi : i ≤ 100) (hv : v ≤ 1024) : ∀ (n k : Nat) (M : PM), k + n ≤ 1024 → (∀ s : Nat, k ≤ s → s < k + n → gA M (tArea i s) = none) →
    (tSlots M i v k n).2 = true ∧ ∀ j, gA (tSlots M i v k n).1 j = if ∃ s : Nat, k ≤ s ∧ s < k + n ∧ j = tArea i s then some ⟨j, List.replicate v 0, List.replicate v false, false⟩ else gA M j := by
  intro n
  induction n with
  | zero =>
    intro k M _ _
    refine ⟨rfl, fun j => ?_⟩
    rw [if_neg (by rintro ⟨s, h1, h2, _⟩; omega)]
    rfl
  | succ n ih =>
    intro k M hk hn
    have h0 := hn k (Nat.le_refl _) (by omega)
    have hmk := make_ok (M := M) (id := tArea i k) (b := List.replicate v 0) (bl := false) (fx := false) (by unfold tArea; omega) h0 (by simp; exact hv)
    have hg := gA_make (M := M) (id := tArea i k) (b := List.replicate v 0) (bl := false) (fx := false) h0
    have hs := tSlots_next (M := M) (i := i) (v := v) (k := k) (n := k + (n + 1)) (by omega) (by rw [hmk])
    rw [show k + (n + 1) - k = n + 1 by omega, show k + (n + 1) - (k + 1) = n by omega, hmk] at hs
    rw [hs]
    obtain ⟨i1, i2⟩ := ih (k + 1) (M ++ [⟨tArea i k, List.replicate v 0, List.replicate (List.replicate v (0 : Int)).length false, false⟩]) (by omega) (fun s h1 h2 => by
      rw [hg, if_neg (fun c => by have := (tArea_inj (by omega) (by omega) c).2; omega)]
      exact hn s (by omega) (by omega))
    refine ⟨i1, fun j => ?_⟩
    rw [i2 j, hg j]
    by_cases c : ∃ s : Nat, k + 1 ≤ s ∧ s < k + 1 + n ∧ j = tArea i s
    · rw [if_pos c, if_pos (by obtain ⟨s, a, b, d⟩ := c; exact ⟨s, by omega, by omega, d⟩)]
    · rw [if_neg c]
      by_cases e : j = tArea i k
      · rw [if_pos e, if_pos ⟨k, Nat.le_refl _, by omega, e⟩, e]
        simp
      · rw [if_neg e, if_neg]
        rintro ⟨s, a, b, d⟩
        by_cases es : s = k
        · subst es; exact e d
        · exact c ⟨s, by omega, by omega, d⟩
/-- Maps as they are at first. -/
def newT (D : List Df) : TT := D.map fun d => ⟨d, numL (nums d), nums d⟩
/-- While maps are made: what memory holds. -/
structure InvN (T : TT) (M : PM) : Prop where
  inv : Inv T M
  free : ∀ i : Nat, T.length ≤ i → i ≤ 100 → ∀ s : Nat, s < 1024 → gA M (tArea i s) = none
  zero : ∀ i, i < T.length → ∀ s : Nat, s < (mt T i).made → gA M (tArea i s) = some ⟨tArea i s, List.replicate (mt T i).d.val.toNat 0, List.replicate (mt T i).d.val.toNat false, false⟩
theorem invN_next {T : TT} {M : PM} {d : Df} (h : InvN T M) (hg : d.good = true) (hT : T.length < 8) : ∃ M', tSlots M T.length d.val.toNat 0 (nums d) = (M', true) ∧ InvN (T ++ [⟨d, numL (nums d), nums d⟩]) M' := by
  obtain ⟨g1, g2, g3, g4, g5, g6, g7⟩ := good_at hg
  obtain ⟨n1, n2, n3⟩ := nums_at hg
  obtain ⟨h1, h2⟩ := slots_ok (i := T.length) (v := d.val.toNat) (by omega) (by omega) (nums d) 0 M (by omega) (fun s _ hs => h.free T.length (Nat.le_refl _) (by omega) s (by omega))
  cases hs : tSlots M T.length d.val.toNat 0 (nums d) with
  | mk M' b =>
    rw [hs] at h1 h2
    simp only at h1 h2
    subst h1
    have old : ∀ i : Nat, i ≠ T.length → ∀ s : Nat, s < 1024 → gA M' (tArea i s) = gA M (tArea i s) := fun i hi s hs2 => by
      rw [h2, if_neg]
      rintro ⟨t, _, ht, e⟩
      have := (tArea_inj (by omega) (by omega) e).1
      omega
    have new : ∀ s : Nat, s < nums d → gA M' (tArea T.length s) = some ⟨tArea T.length s, List.replicate d.val.toNat 0, List.replicate d.val.toNat false, false⟩ := fun s hs2 => by
      rw [h2, if_pos ⟨s, by omega, by omega, rfl⟩]
    have newn : ∀ s : Nat, nums d ≤ s → s < 1024 → gA M' (tArea T.length s) = none := fun s hs1 hs2 => by
      rw [h2, if_neg]
      · exact h.free T.length (Nat.le_refl _) (by omega) s hs2
      · rintro ⟨t, _, ht, e⟩
        have := (tArea_inj (by omega) (by omega) e).2
        omega
    have hlen : (T ++ [(⟨d, numL (nums d), nums d⟩ : TM)]).length = T.length + 1 := by simp
    have hmt : ∀ i, i < T.length + 1 → (i < T.length ∧ mt (T ++ [(⟨d, numL (nums d), nums d⟩ : TM)]) i = mt T i) ∨ (i = T.length ∧ mt (T ++ [(⟨d, numL (nums d), nums d⟩ : TM)]) i = ⟨d, numL (nums d), nums d⟩) := fun i hi => by
      rw [mt_app]
      by_cases c : i < T.length
      · exact .inl ⟨c, if_pos c⟩
      · exact .inr ⟨by omega, by rw [if_neg c, if_pos (by omega)]⟩
    have hmade : ∀ i, i < T.length → (mt T i).made ≤ 1024 := fun i hi => (h.inv.ok i hi).made
    refine ⟨M', rfl, ⟨fun i hi => ?_, fun i hi => ?_, fun i hi s hs1 => ?_, fun i hi s hs1 hs2 => ?_, by rw [hlen]; omega⟩, fun i hi hi2 s hs1 => ?_, fun i hi s hs1 => ?_⟩
    · rw [hlen] at hi
      rcases hmt i hi with ⟨c, e⟩ | ⟨c, e⟩ <;> rw [e]
      · exact h.inv.ok i c
      · exact ok_nums hg
    · rw [hlen] at hi
      rcases hmt i hi with ⟨c, e⟩ | ⟨c, e⟩ <;> rw [e]
      · exact h.inv.slots i c
      · intro y hy z hz hyz
        obtain ⟨a, _, rfl⟩ := numL_mem hy
        obtain ⟨b, _, rfl⟩ := numL_mem hz
        simp only [numK] at hyz ⊢
        rw [hyz]
    · rw [hlen] at hi
      rcases hmt i hi with ⟨c, e⟩ | ⟨c, e⟩ <;> rw [e] at hs1 ⊢
      · have := hmade i c
        rw [old i (by omega) s (by omega)]
        exact h.inv.have_ i c s hs1
      · simp only at hs1 ⊢
        subst c
        rw [new s hs1]
        exact ⟨_, rfl, by simp; omega, rfl, by simp⟩
    · rw [hlen] at hi
      rcases hmt i hi with ⟨c, e⟩ | ⟨c, e⟩ <;> rw [e] at hs1
      · rw [old i (by omega) s hs2]
        exact h.inv.none_ i c s hs1 hs2
      · simp only at hs1
        subst c
        exact newn s hs1 hs2
    · rw [hlen] at hi
      rw [old i (by omega) s hs1]
      exact h.free i (by omega) hi2 s hs1
    · rw [hlen] at hi
      rcases hmt i hi with ⟨c, e⟩ | ⟨c, e⟩ <;> rw [e] at hs1 ⊢
      · have := hmade i c
        rw [old i (by omega) s (by omega)]
        exact h.zero i c s hs1
      · simp only at hs1 ⊢
        subst c
        exact new s hs1
theorem newG_ok : ∀ (D : List Df) (T : TT) (M : PM), (∀ d ∈ D, d.good = true) → T.length + D.length ≤ 8 → InvN T M → ∃ M', tNewG T.length D M T = (M', some (T ++ newT D)) ∧ InvN (T ++ newT D) M' := by
  intro D
  induction D with
  | nil =>
    intro T M _ _ h
    exact ⟨M, by simp [tNewG, newT], by simpa [newT] using h⟩
  | cons d D ih =>
    intro T M hg hl h
    simp only [List.length_cons] at hl
    obtain ⟨M1, e1, h1⟩ := invN_next h (hg d (List.mem_cons_self ..)) (by omega)
    have hl1 : (T ++ [(⟨d, numL (nums d), nums d⟩ : TM)]).length = T.length + 1 := by simp
    obtain ⟨M2, e2, h2⟩ := ih (T ++ [⟨d, numL (nums d), nums d⟩]) M1 (fun x hx => hg x (List.mem_cons_of_mem _ hx)) (by rw [hl1]; omega) h1
    rw [hl1] at e2
    have e3 : T ++ [(⟨d, numL (nums d), nums d⟩ : TM)] ++ newT D = T ++ newT (d :: D) := by simp [newT]
    rw [e3] at e2 h2
    refine ⟨M2, ?_, h2⟩
    have e4 : tNewG T.length (d :: D) M T = if d.hash then tNewG (T.length + 1) D M (T ++ [⟨d, [], 0⟩]) else if (tSlots M T.length d.val.toNat 0 d.max.toNat).2 then tNewG (T.length + 1) D (tSlots M T.length d.val.toNat 0 d.max.toNat).1 (T ++ [⟨d, numL d.max.toNat, d.max.toNat⟩]) else ((tSlots M T.length d.val.toNat 0 d.max.toNat).1, none) := rfl
    rw [e4, ← e2]
    clear e4 e2
    unfold nums at e1
    cases hh : d.hash
    · rw [hh, if_neg Bool.false_ne_true] at e1
      rw [if_neg Bool.false_ne_true, e1, if_pos rfl]
      have : nums d = d.max.toNat := by unfold nums; rw [hh, if_neg Bool.false_ne_true]
      rw [this]
    · rw [hh, if_pos rfl] at e1
      have : M = M1 := congrArg Prod.fst e1
      have e5 : nums d = 0 := by unfold nums; rw [hh, if_pos rfl]
      rw [if_pos rfl, this, e5]
      rfl
theorem invN_nil : InvN [] [] := ⟨⟨fun i h => absurd h (by simp), fun i h => absurd h (by simp), fun i h => absurd h (by simp), fun i h => absurd h (by simp), by simp⟩, fun i _ _ s _ => rfl, fun i h => absurd h (by simp)⟩
theorem new_ok {D : List Df} (h : tRight D = true) : ∃ M, tNew [] D = (M, some (newT D)) ∧ InvN (newT D) M := by
  unfold tRight at h
  simp only [Bool.and_eq_true, List.all_eq_true, decide_eq_true_eq] at h
  obtain ⟨M, e, hI⟩ := newG_ok D [] [] h.1 (by simpa using h.2) invN_nil
  refine ⟨M, ?_, by simpa using hI⟩
  unfold tNew
  rw [show tRight D = true by unfold tRight; simp only [Bool.and_eq_true, List.all_eq_true, decide_eq_true_eq]; exact h, if_pos rfl]
  simpa using e
theorem slots_len (M : PM) (i v k n : Nat) : (tSlots M i v k n).1.length ≤ M.length + n := by
  induction n generalizing M k with
  | zero => exact Nat.le_refl _
  | succ n ih =>
    unfold tSlots
    have h1 := pMake_len M (tArea i k) (List.replicate v 0) false false
    split
    · have := ih (pMake M (tArea i k) (List.replicate v 0) false false).1 (k + 1)
      omega
    · simp only
      omega
theorem newG_len : ∀ (D : List Df) (i : Nat) (M : PM) (T : TT), (∀ d ∈ D, d.good = true) → (tNewG i D M T).1.length ≤ M.length + 16 * D.length := by
  intro D
  induction D with
  | nil => intro i M T _; exact Nat.le_refl _
  | cons d D ih =>
    intro i M T hg
    have hgd := good_at (hg d (List.mem_cons_self ..))
    have hs := slots_len M i d.val.toNat 0 d.max.toNat
    simp only [List.length_cons]
    unfold tNewG
    split
    · have := ih (i + 1) M (T ++ [⟨d, [], 0⟩]) (fun x hx => hg x (List.mem_cons_of_mem _ hx))
      omega
    · split
      · have := ih (i + 1) (tSlots M i d.val.toNat 0 d.max.toNat).1 (T ++ [⟨d, numL d.max.toNat, d.max.toNat⟩]) (fun x hx => hg x (List.mem_cons_of_mem _ hx))
        omega
      · simp only
        omega
theorem new_len {D : List Df} (h : tRight D = true) : (tNew [] D).1.length ≤ 128 := by
  unfold tNew
  rw [h, if_pos rfl]
  unfold tRight at h
  simp only [Bool.and_eq_true, List.all_eq_true, decide_eq_true_eq] at h
  have := newG_len D 0 [] [] h.1
  simp only [List.length_nil] at this
  omega

end Go.Proofs.Ytnnmcfklmmpdaaa


/-
  Arguments that are structs or arrays of integers and bools, opened cell by cell: whatever the nesting, each cell is a number of its kind, or a bool.
  Conditions: none; 'leafAt' computes of which kind a cell is.
-/
namespace Go.Proofs.Ytnnmcfklmmpdaaa
open Go.ChangeShapes Go.WideShapes Go.RowKit

/-- A cell's kind: a number's, or (none) a bool. -/
def LeafOk : Option IntKind → Value → Prop
  | some k, v => ∃ n, v = .int k n ∧ (Lit.int k n).wf = true
  | none, v => ∃ b, v = .bool b

/-- Cell j of a value of type t, looked for n deep. -/
def leafAt (P : Program) : Nat → TypeId → Nat → Option (Option IntKind)
  | 0, _, _ => none
  | n + 1, t, j =>
    match P.underlying t with
    | some (.int k) => if j = 0 then some (some k) else none
    | some .bool => if j = 0 then some none else none
    | some (.struct fs) => (fs.toList.find? fun f => decide (f.offset ≤ j ∧ j < f.offset + P.cellsOf f.type)).bind fun f => leafAt P n f.type (j - f.offset)
    | some (.array m e) => if P.cellsOf e = 0 then none else if j < m * P.cellsOf e then leafAt P n e (j % P.cellsOf e) else none
    | _ => none

section
variable {H : Type} {enc : TypeId × Value → H} {P : Program} {w : World} {base : Nat} {spare : Nat → Bool} {held : Bool}

theorem leaf_of_trod : ∀ (n fuel : Nat) (t : TypeId) (cs : List Value) (x : DataW H × List MemPlace) (j : Nat) (L : Option IntKind),
    DataW.trod enc P w base spare held fuel t cs = some x → leafAt P n t j = some L → ∃ v, cs[j]? = some v ∧ LeafOk L v := by
  intro n
  induction n with
  | zero => intro fuel t cs x j L _ hl; simp [leafAt] at hl
  | succ n ih =>
    intro fuel t cs x j L h hl
    unfold leafAt at hl
    split at hl
    · rename_i k hk
      obtain ⟨m, rfl, _, hw⟩ := DataW.trod_int hk h
      split at hl
      · rename_i hj
        subst hj
        cases hl
        exact ⟨_, rfl, m, rfl, hw⟩
      · cases hl
    · rename_i hk
      obtain ⟨b, rfl, _⟩ := DataW.trod_bool hk h
      split at hl
      · rename_i hj
        subst hj
        cases hl
        exact ⟨_, rfl, b, rfl⟩
      · cases hl
    · rename_i fs hk
      obtain ⟨xs, m, _, _, _, hlen, hf⟩ := DataW.trod_struct hk h
      obtain ⟨f, hfind, hrest⟩ := Option.bind_eq_some_iff.1 hl
      have hmem := List.mem_of_find?_eq_some hfind
      have hp := List.find?_some hfind
      simp only [decide_eq_true_eq] at hp
      obtain ⟨i, hi, hget⟩ := List.getElem_of_mem hmem
      have hif : fs[i]? = some f := by
        have : i < fs.size := by simpa using hi
        rw [Array.getElem?_eq_getElem this]
        simpa using hget
      have hx : xs[i]? = some (xs[i]'(by rw [hlen]; simpa using hi)) := List.getElem?_eq_getElem _
      have h1 := (hf i f hif).trans hx
      obtain ⟨v, hv, hok⟩ := ih _ _ _ _ _ _ h1 hrest
      refine ⟨v, ?_, hok⟩
      rw [List.getElem?_take, if_pos (by omega), List.getElem?_drop] at hv
      rw [← hv]
      congr 1
      omega
    · rename_i m e hk
      obtain ⟨xs, k, _, _, _, hlen, hf⟩ := DataW.trod_array hk h
      split at hl
      · cases hl
      · rename_i hne
        split at hl
        · rename_i hlt
          have hpos : 0 < P.cellsOf e := Nat.pos_of_ne_zero hne
          have hdm := Nat.div_add_mod j (P.cellsOf e)
          have hq : j / P.cellsOf e < m := (Nat.div_lt_iff_lt_mul hpos).2 hlt
          have hr := Nat.mod_lt j hpos
          have hx : xs[j / P.cellsOf e]? = some (xs[j / P.cellsOf e]'(by omega)) := List.getElem?_eq_getElem _
          have h1 := (hf _ hq).trans hx
          obtain ⟨v, hv, hok⟩ := ih _ _ _ _ _ _ h1 hl
          refine ⟨v, ?_, hok⟩
          rw [List.getElem?_take, if_pos hr, List.getElem?_drop] at hv
          rw [← hv]
          congr 1
          rw [Nat.mul_comm] at hdm
          omega
        · cases hl
    · cases hl

/-- A value that reads: cell j of it. -/
theorem leaf_of_Trod {t : TypeId} {v : Value} {d : DataW H} {p : List MemPlace} (h : DataW.Trod enc P w base spare held t v d p) (n j : Nat) {L : Option IntKind} (hl : leafAt P n t j = some L) :
    ∃ u, v.cells.toList[j]? = some u ∧ LeafOk L u := by
  obtain ⟨fuel, hf⟩ := h
  exact leaf_of_trod n fuel t _ _ j L hf hl

theorem agg_of_struct {r : Reach} {b0 : Nat} {t : TypeId} {fs : Array Field} {v : Value} (ht : P.underlying t = some (.struct fs)) (hv : Value.okWide P w r b0 t v) :
    ∃ l : List Value, v = .agg ⟨l⟩ ∧ l.length = P.cellsOf t := by
  obtain ⟨cs, rfl, hs⟩ := okWide_struct ht hv
  exact ⟨cs.toList, by simp, by simpa using hs⟩
theorem agg_of_array {r : Reach} {b0 : Nat} {t e : TypeId} {n : Nat} {v : Value} (ht : P.underlying t = some (.array n e)) (hv : Value.okWide P w r b0 t v) :
    ∃ l : List Value, v = .agg ⟨l⟩ ∧ l.length = P.cellsOf t := by
  simp only [Value.okWide, ht] at hv
  obtain ⟨cs, rfl, hs, _⟩ := hv
  exact ⟨cs.toList, by simp, by simpa using hs⟩
end

theorem LeafOk.int_ {k : IntKind} {l : List Value} {j : Nat} (h : ∃ u, l[j]? = some u ∧ LeafOk (some k) u) : ∃ n, l[j]? = some (.int k n) ∧ (Lit.int k n).wf = true := by
  obtain ⟨u, hu, n, rfl, hw⟩ := h
  exact ⟨n, hu, hw⟩
theorem LeafOk.bool_ {l : List Value} {j : Nat} (h : ∃ u, l[j]? = some u ∧ LeafOk none u) : ∃ b, l[j]? = some (.bool b) := by
  obtain ⟨u, hu, b, rfl⟩ := h
  exact ⟨b, hu⟩

end Go.Proofs.Ytnnmcfklmmpdaaa


/-
  A frame for laws over plain arguments: if the walk of a law returns true, and below the heap's old size nothing turns, then the law's row holds.
  Conditions: none beyond the row's own.
-/
namespace Go.Proofs.Ytnnmcfklmmpdaaa
open Go.ChangeShapes Go.WideShapes Go.ChangeAt Go.RowKit

section
variable {H : Type} {enc : TypeId × Value → H}

/-- All arguments read behind the call as they did, if below the heap's old size nothing has turned. -/
theorem below_trodAll {P : Program} (hl : laidOutB P = true) {W W' : World} (hb : Below W.heap.size W W') :
    ∀ (ts : List TypeId) (vs : List Value) (ds : List (DataW H)) (ps : List MemPlace),
      (ts.all fun t => P.readableRec t && decide (t < P.types.size)) = true →
      DataW.TrodAll enc P W 0 (fun _ => true) true ts vs ds ps →
      DataW.TrodAll enc P W' 0 (fun b => decide (b < W.heap.size)) true ts vs ds ps := by
  intro ts
  induction ts with
  | nil =>
    intro vs ds ps _ h
    cases vs with
    | nil =>
      cases ds with
      | nil => simpa [DataW.TrodAll] using h
      | cons d ds => simp [DataW.TrodAll] at h
    | cons v vs => simp [DataW.TrodAll] at h
  | cons t ts ih =>
    intro vs ds ps hr h
    simp only [List.all_cons, Bool.and_eq_true, decide_eq_true_eq] at hr
    obtain ⟨v, vs', d, ds', p, q, rfl, rfl, rfl, h1, h2⟩ := trodAll_cons h
    have hlt : ∀ x ∈ p, x.block < W.heap.size := by
      obtain ⟨m, hm⟩ := h1
      exact DataW.trod_lt m _ _ _ hm
    exact trodAll_cons_mk (Below.trod hl hr.1.1 hr.1.2 h1 hb hlt) (ih _ _ _ hr.2 h2)

theorem trodAll_length {P : Program} {w : World} {base : Nat} {spare : Nat → Bool} {held : Bool} : ∀ (ts : List TypeId) (vs : List Value) (ds : List (DataW H)) (ps : List MemPlace),
    DataW.TrodAll enc P w base spare held ts vs ds ps → ds.length = ts.length := by
  intro ts
  induction ts with
  | nil =>
    intro vs ds ps h
    cases vs with
    | nil =>
      cases ds with
      | nil => rfl
      | cons d ds => simp [DataW.TrodAll] at h
    | cons v vs => simp [DataW.TrodAll] at h
  | cons t ts ih =>
    intro vs ds ps h
    obtain ⟨v, vs', d, ds', p, q, rfl, rfl, rfl, _, h2⟩ := trodAll_cons h
    simp [ih _ _ _ h2]

/-- The row's step, for a law of whatever number of arguments. -/
theorem law_lifted {C : Checked} {os : Os} {f : FuncId} {fn : Func} {s : ChangeSpec} {conds : List PathCond} {b : TypeId}
    (own : ownKnob C.prog.godebug = none) (started : os.Started) (noInit : C.prog.inits.idxOf? f = none) (hfn : C.prog.funcs[f]? = some fn)
    (witness : ∃ (w : World) (tape : Tape) (i : Input), w.os = os ∧ (w.forCall tape i).Shaped C.prog ∧ i.vars = [] ∧ Input.okWide C.prog (w.forCall tape i) .any w.heap.size f i ∧
      s.pre6 enc C.prog fn conds false (w.forCall tape i).memory i.args ∧ ({} : Assume).holds C.prog (lone (Frame.enter C.prog f i.args .normal) [] (w.forCall tape i)))
    (hl : laidOutB C.prog = true) (hvars : s.vars = []) (hres : fn.resultTypes = #[b]) (hb : C.prog.underlying b = some .bool)
    (hread : (fn.params.toList.all fun t => C.prog.readableRec t && decide (t < C.prog.types.size)) = true)
    (hspec : ∀ ds : List (DataW H), ds.length = fn.params.size → s.fn H ds = { results := [.lit (.bool true)], args := ds, vars := [] })
    (walk : ∀ (W : World) (base : Nat) (args : Array Value) (ds : List (DataW H)) (p : List MemPlace),
      (∀ (j : Nat) t v, fn.params[j]? = some t → args[j]? = some v → Value.okWide C.prog W .any base t v) →
      DataW.TrodAll enc C.prog W 0 (fun _ => true) true fn.params.toList args.toList ds p →
      Calls C.prog f args W fun e W' => e = .returned (.bool true) ∧ Below W.heap.size W W') :
    ReturnsInHanded {} C os f .any (s.pre6 enc C.prog fn conds false) (s.post enc C.prog fn false true false false) := by
  refine returnsInHanded_of_change own started noInit hfn witness ?_
  intro W base args ds gs before hval hW _ _
  have hW' := hW
  obtain ⟨p, q, hA, hV, rfl, _, _⟩ := hW
  rw [hvars] at hV
  obtain ⟨rfl, rfl⟩ := trodVars_none hV
  refine (walk W base args ds p hval hA).mono fun e W' ⟨he, bel⟩ => ?_
  have hlen : ds.length = fn.params.size := by simpa using trodAll_length _ _ _ _ hA
  have hsp := hspec ds hlen
  refine ⟨_, he, ds, [], _, [], p, [], hW', ?_, ?_, ?_, bel.frame _, fun h => by cases h⟩
  · rw [List.append_nil, hsp, hres]
    exact trodAll_mk1 (shut_bool hb _)
  · rw [List.append_nil, hsp]
    exact below_trodAll hl bel _ _ _ _ hread hA
  · rw [List.append_nil, hsp, hvars]
    rfl
end

end Go.Proofs.Ytnnmcfklmmpdaaa


/-
  What all laws' last texts want: the program's two closed facts, and five arguments.
  Conditions: none.
-/
namespace Go.Proofs.Ytnnmcfklmmpdaaa
open Go.ChangeShapes Go.WideShapes Go.RowKit
set_option linter.unusedVariables false

theorem own_none : ownKnob Try.prog.godebug = none := by kernel_rfl
theorem laid_out : laidOutB Try.prog = true := by kernel_rfl

section
variable {H : Type} {enc : TypeId × Value → H} {P : Program} {w : World} {base : Nat} {spare : Nat → Bool} {held : Bool}
theorem trodAll_five {t t' t'' t3 t4 : TypeId} {args : Array Value} {ds : List (DataW H)} {ps : List MemPlace} (h : DataW.TrodAll enc P w base spare held [t, t', t'', t3, t4] args.toList ds ps) :
    ∃ v v' v'' v3 v4 d d' d'' d3 d4 p p' p'' p3 p4, args = #[v, v', v'', v3, v4] ∧ ds = [d, d', d'', d3, d4] ∧ ps = p ++ p' ++ p'' ++ p3 ++ p4 ∧ DataW.Trod enc P w base spare held t v d p ∧ DataW.Trod enc P w base spare held t' v' d' p' ∧
      DataW.Trod enc P w base spare held t'' v'' d'' p'' ∧ DataW.Trod enc P w base spare held t3 v3 d3 p3 ∧ DataW.Trod enc P w base spare held t4 v4 d4 p4 := by
  obtain ⟨v, vs, d, ds', p, q, hargs, rfl, rfl, hd, hrest⟩ := trodAll_cons h
  obtain ⟨v', vs', d', ds'', p', q', rfl, rfl, rfl, hd', hrest'⟩ := trodAll_cons hrest
  obtain ⟨v'', vs'', d'', ds''', p'', q'', rfl, rfl, rfl, hd'', hrest''⟩ := trodAll_cons hrest'
  obtain ⟨v3, vs3, d3, ds3, p3, q3, rfl, rfl, rfl, hd3, hrest3⟩ := trodAll_cons hrest''
  obtain ⟨v4, vs4, d4, ds4, p4, q4, rfl, rfl, rfl, hd4, hrest4⟩ := trodAll_cons hrest3
  obtain ⟨rfl, rfl, rfl⟩ := trodAll_nil hrest4
  exact ⟨v, v', v'', v3, v4, d, d', d'', d3, d4, p, p', p'', p3, p4, by cases args; simp_all, rfl, by simp, hd, hd', hd'', hd3, hd4⟩
end

end Go.Proofs.Ytnnmcfklmmpdaaa


/-
  Rows of bytes as arguments of a law.
  Conditions: none.
-/
namespace Go.Proofs.Ytnnmcfklmmpdaaa
open Go.ChangeShapes Go.WideShapes Go.RowKit Go.Deep
set_option maxRecDepth 100000
set_option linter.unusedVariables false

theorem lt_of_cell {w : World} {a : Addr} {v : Value} (h : w.cell? a = some v) : a.block < w.heap.size := by
  rcases Nat.lt_or_ge a.block w.heap.size with k | k
  · exact k
  · simp [World.cell?, Array.getElem?_eq_none k] at h
theorem add_spotless (g o k : Nat) : (⟨g, o, none⟩ : Addr).add k = ⟨g, o + k, none⟩ := by
  unfold Addr.add
  split <;> simp_all
section
variable {H : Type} {enc : TypeId × Value → H} {w : World} {base : Nat} {spare : Nat → Bool} {held : Bool}

theorem open_bytes {r : Reach} {b0 : Nat} {v : Value} {d : DataW H} {p : List MemPlace} (hv : Value.okWide Try.prog w r b0 40 v) (h : DataW.Trod enc Try.prog w base (fun _ => true) held 40 v d p) :
    ∃ (A : Option Addr) (c : Nat) (b : List Int), v = .slice A b.length c ∧ BytS w A b ∧ OkB b ∧ b.length ≤ c ∧ c ≤ maxLen := by
  obtain ⟨A, n, c, rfl⟩ := okWide_slice Try.underlying40 hv
  obtain ⟨fuel, hf⟩ := h
  rcases open_ints Try.underlying40 Try.underlying5 (by kernel_rfl) hf with ⟨hcs, _⟩ | ⟨x, l, cc, zs, hcs, _, hl, hm, hz, _, hcell, hwz⟩
  · simp [Value.cells] at hcs
    obtain ⟨rfl, rfl, rfl⟩ := hcs
    exact ⟨none, 0, [], rfl, BytS.none_ _ _, fun k hk => absurd hk (by simp), Nat.le_refl _, Nat.zero_le _⟩
  · simp [Value.cells] at hcs
    obtain ⟨rfl, rfl, rfl⟩ := hcs
    have hzl : zs.length = c := by simpa using hz
    have hl2 : (zs.take n).length = n := by rw [List.length_take]; omega
    have hA : ∀ k, k < n → bAt (zs.take n) k = zs.getD k 0 := fun k hk => by
      unfold bAt
      rw [List.getD_eq_getElem?_getD, List.getElem?_take, if_pos hk, ← List.getD_eq_getElem?_getD]
    refine ⟨some x, _, zs.take n, by rw [hl2], fun h0 => ?_, fun k hk => ?_, by rw [hl2]; exact hl, hm⟩
    · rw [hl2] at h0
      obtain ⟨g, o, spot⟩ := x
      have hc0 := hcell 0 (by omega)
      have hspot : spot = none := by simpa [Addr.add] using World.cell?_spot hc0
      subst hspot
      refine ⟨g, o, rfl, ?_, fun k hk => ?_⟩
      · have := lt_of_cell hc0
        rwa [add_spotless] at this
      · rw [hl2] at hk
        rw [hA k hk]
        have := hcell k (by omega)
        rwa [add_spotless] at this
    · rw [hl2] at hk
      rw [hA k hk, List.getD_eq_getElem?_getD, List.getElem?_eq_getElem (by omega)]
      exact bounds_u8 (hwz _ (List.getElem_mem (by omega)))
end

end Go.Proofs.Ytnnmcfklmmpdaaa
