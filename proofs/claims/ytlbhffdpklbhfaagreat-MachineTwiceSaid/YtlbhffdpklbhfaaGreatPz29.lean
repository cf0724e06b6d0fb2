/-
  Texts, one behind the other: Ref09s, Ref09h, MachTC.
  Conditions: those that each theorem states.
-/
import Derived.Test.YtlbhffdpklbhfaaGreatPz5
import Derived.Lib.ConvBytes
import Derived.Maps.AppendAt
import Derived.Test.YtlbhffdpklbhfaaGreatPz6
import Derived.Deep.AppendLies
import Derived.Test.YtlbhffdpklbhfaaGreatPz28
namespace Go.Proofs.YtlbhffdpklbhfaaGreat
open Go.RowKit
set_option maxRecDepth 100000
set_option linter.unusedVariables false
set_option linter.unusedSimpArgs false
abbrev It := List Int × List Int
def itA (l : List It) (k : Nat) : It := l.getD k ([], [])
def ItemS (w : World) (A : Option Addr) (l : List It) : Prop :=
  0 < l.length → ∃ g o, A = some ⟨g, o, none⟩ ∧ g < w.heap.size ∧ ∀ k, k < l.length → ∃ A1 c1 A2 c2, w.cell? ⟨g, o + k * 2, none⟩ = some (.slice A1 (itA l k).1.length c1) ∧ w.cell? ⟨g, o + k * 2 + 1, none⟩ = some (.slice A2 (itA l k).2.length c2) ∧ BytS w A1 (itA l k).1 ∧ BytS w A2 (itA l k).2
theorem ItemS.after {w w' : World} {A : Option Addr} {l : List It} (h : ItemS w A l) (b : Below w.heap.size w w') : ItemS w' A l := fun hl => by
  obtain ⟨g, o, e, hg, hc⟩ := h hl
  have q : ∀ p, w'.cell? ⟨g, p, none⟩ = w.cell? ⟨g, p, none⟩ := fun p => b.cell (p := ⟨g, p, none⟩) hg
  refine ⟨g, o, e, Nat.lt_of_lt_of_le hg b.size, fun k hk => ?_⟩
  obtain ⟨A1, c1, A2, c2, h1, h2, h3, h4⟩ := hc k hk
  exact ⟨A1, c1, A2, c2, by rw [q]; exact h1, by rw [q]; exact h2, h3.after b, h4.after b⟩
def OkI (l : List It) : Prop := ∀ k, k < l.length → OkB (itA l k).1 ∧ OkB (itA l k).2
theorem it_ext {x y : List It} (h : x.length = y.length) (ha : ∀ k, k < x.length → itA x k = itA y k) : x = y := by
  apply List.ext_getElem h
  intro k h1 h2
  have := ha k h1
  unfold itA at this
  rw [List.getD_eq_getElem?_getD, List.getD_eq_getElem?_getD, List.getElem?_eq_getElem h1, List.getElem?_eq_getElem h2] at this
  exact this
set_option maxHeartbeats 4000000 in
theorem r9_Same (w : World) (x y : List It) (A B : Option Addr) (c d : Nat) (hx : ItemS w A x) (hy : ItemS w B y) (ox : OkI x) (oy : OkI y) (hc : x.length ≤ c) (hd : y.length ≤ d) (hcm : c ≤ maxLen) (hdm : d ≤ maxLen) :
    Calls Tryz.prog 86 #[.slice A x.length c, .slice B y.length d] w (Gives (.bool (decide (x = y))) w) := by
  have HNE : Hid (¬ x.length = y.length → decide (x = y) = false) := Lib.hid fun h => decide_eq_false (fun e => h (by rw [e]))
  have HAT : Hid (∀ k, ¬ itA x k = itA y k → decide (x = y) = false) := Lib.hid fun k h => decide_eq_false (fun e => h (by rw [e]))
  have HEQ : Hid (x.length = y.length → (∀ k, k < x.length → itA x k = itA y k) → decide (x = y) = true) := Lib.hid fun h h' => decide_eq_true (it_ext h h')
  have HX := Lib.hid hx
  have HY := Lib.hid hy
  have OX := Lib.hid ox
  have OY := Lib.hid oy
  clear hx hy ox oy
  unfold maxLen at hcm hdm
  generalize hnx : x.length = nx at *
  generalize hny : y.length = ny at *
  have HNX := Lib.hid hnx
  have HNY := Lib.hid hny
  clear hnx hny
  by_cases hl : nx = ny
  · subst hl
    have hlb : ((nx : Int) != (nx : Int)) = false := by simp
    go_enter Tryz.func86, Tryz.ntmps86
    go_wp2_with fail
    go_loopw [5] (fun iv wr => ∃ j : Nat, iv = .int .i64 j ∧ j ≤ nx ∧ Hid (∀ t, t < j → itA x t = itA y t) ∧ Hid (Below w.heap.size w wr)) (fun iv wr => nx - (intOf iv).toNat)
    case atStart => exact ⟨0, rfl, by omega, Lib.hid fun t ht => by omega, Lib.hid (Below.refl _ _)⟩
    case round =>
      obtain ⟨j, rfl, hj, HT, V⟩ := hrel
      have j0 : (0 : Int) ≤ j := by omega
      by_cases hlt : (j : Int) < nx
      · have hjn : j < nx := by omega
        obtain ⟨gx, ox, rfl, hgx, hcx⟩ := HX.out.after V.out (by rw [HNX.out]; omega)
        obtain ⟨gy, oy, rfl, hgy, hcy⟩ := HY.out.after V.out (by rw [HNY.out]; omega)
        obtain ⟨A1, c1, A2, c2, x0, x1, x2, x3⟩ := hcx j (by rw [HNX.out]; exact hjn)
        obtain ⟨B1, d1, B2, d2, y0, y1, y2, y3⟩ := hcy j (by rw [HNY.out]; exact hjn)
        obtain ⟨p1, p2⟩ := OX.out j (by rw [HNX.out]; exact hjn)
        obtain ⟨q1, q2⟩ := OY.out j (by rw [HNY.out]; exact hjn)
        have DR : Hid (∀ q, Below wr.heap.size wr (wr.drewN q)) := Lib.hid fun q => below_drewN (Below.refl _ _) q
        have s1 := fun q => str_bytS (x2.after (DR.out q)) c1
        have s2 := fun q => str_bytS (x3.after (DR.out q)) c2
        have t1 := fun q => str_bytS (y2.after (DR.out q)) d1
        have t2 := fun q => str_bytS (y3.after (DR.out q)) d2
        have e1 := eq_str p1 q1
        have e2 := eq_str p2 q2
        have HA2 := Lib.hid (HAT.out j)
        have HT2 : Hid ((itA x j).1 = (itA y j).1 → (itA x j).2 = (itA y j).2 → ∀ t, t < j + 1 → itA x t = itA y t) := Lib.hid fun h1 h2 t ht => by
          by_cases e : t = j
          · rw [e]; exact Prod.ext h1 h2
          · exact HT.out t (by omega)
        have PR : Hid (∀ a b : It, a = b → a.1 = b.1 ∧ a.2 = b.2) := Lib.hid fun a b h => by rw [h]; exact ⟨rfl, rfl⟩
        clear x2 x3 y2 y3 p1 p2 q1 q2 hcx hcy HT
        cases h1 : ((itA x j).1 == (itA y j).1)
        · have HE := Lib.hid (HA2.out (fun e => by rw [(PR.out _ _ e).1] at h1; simp at h1))
          rw [h1] at e1
          clear HT2 h1
          generalize (itA x j).1 = xk at *
          generalize (itA y j).1 = yk at *
          generalize (itA x j).2 = xv at *
          generalize (itA y j).2 = yv at *
          go_wp2_with fail
          go_quiet (fail)
          have V2 := Lib.hid (below_next' V.out (DR.out nq))
          clear DR s1 s2 t1 t2
          generalize wr.drewN nq = wq at *
          go_wp2_with fail
          go_ret
          exact ⟨end_bool HE.out.symm, V2.out⟩
        · cases h2 : ((itA x j).2 == (itA y j).2)
          · have HE := Lib.hid (HA2.out (fun e => by rw [(PR.out _ _ e).2] at h2; simp at h2))
            rw [h1] at e1
            rw [h2] at e2
            clear HT2 h1 h2
            generalize (itA x j).1 = xk at *
            generalize (itA y j).1 = yk at *
            generalize (itA x j).2 = xv at *
            generalize (itA y j).2 = yv at *
            go_wp2_with fail
            go_quiet (fail)
            have V2 := Lib.hid (below_next' V.out (DR.out nq))
            clear DR s1 s2 t1 t2
            generalize wr.drewN nq = wq at *
            go_wp2_with fail
            go_ret
            exact ⟨end_bool HE.out.symm, V2.out⟩
          · have HN := Lib.hid (HT2.out (by simpa using h1) (by simpa using h2))
            rw [h1] at e1
            rw [h2] at e2
            clear HT2 h1 h2 HA2
            generalize (itA x j).1 = xk at *
            generalize (itA y j).1 = yk at *
            generalize (itA x j).2 = xv at *
            generalize (itA y j).2 = yv at *
            go_wp2_with fail
            go_quiet (fail)
            have V2 := Lib.hid (below_next' V.out (DR.out nq))
            clear DR s1 s2 t1 t2
            generalize wr.drewN nq = wq at *
            go_wp2_with fail
            go_round
            case rel => exact ⟨j + 1, by go_num, by omega, HN, V2⟩
            case measure => simp [intOf]; omega
      · have hjn : j = nx := by omega
        subst hjn
        have HE := Lib.hid (HEQ.out trivial HT.out)
        go_wp2_with fail
        go_ret
        exact ⟨end_bool HE.out.symm, V.out⟩
  · have hlb : ((nx : Int) != (ny : Int)) = true := by simp; omega
    have HE := Lib.hid (HNE.out hl)
    go_enter Tryz.func86, Tryz.ntmps86
    go_wp2_with fail
    go_ret
    exact ⟨end_bool HE.out.symm, Below.refl _ _⟩
theorem u8_nat {x : Int} (h : 0 ≤ x ∧ x ≤ 255) : ((UInt8.ofNat x.toNat).toNat : Int) = x := by
  rw [UInt8.toNat_ofNat']
  omega
theorem conv_bytes (u : World) (k : List Int) (hk : OkB k) :
    ∃ c w', (convert 9 23 (.string (strOfNums k))).run Tryz.prog u = .ok (.slice (some ⟨u.heap.size, 0, none⟩) k.length c) w' ∧ (BytS w' (some ⟨u.heap.size, 0, none⟩) k ∧ u.heap.size < w'.heap.size) ∧ Below u.heap.size u w' := by
  have hd : (strOfNums k).data.toList = k.map fun n => UInt8.ofNat n.toNat := rfl
  have hsz : (strOfNums k).size = k.length := by
    have := congrArg List.length hd
    rw [List.length_map] at this
    exact this
  have hr := Lib.run_convert_string_bytes (P := Tryz.prog) u 9 23 5 (strOfNums k) Tryz.underlying9 Tryz.underlying23 Tryz.underlying5
  rw [hsz] at hr
  have hw := Lib.bytesWorld_size u 5 (strOfNums k)
  refine ⟨_, _, hr, ⟨fun hl => ⟨u.heap.size, 0, rfl, by omega, fun j hj => ?_⟩, by omega⟩, ⟨rfl, rfl, rfl, by omega, fun j hj => Lib.bytesWorld_at_old u _ _ j hj⟩⟩
  rw [Nat.zero_add, Lib.bytesWorld_cell u _ _ j (by omega), hd]
  congr 1
  have h := u8_nat (hk j hj)
  have e : (List.map (fun n : Int => UInt8.ofNat n.toNat) k).getD j 0 = UInt8.ofNat (bAt k j).toNat := by
    unfold bAt
    rw [List.getD_eq_getElem?_getD, List.getD_eq_getElem?_getD, List.getElem?_map, List.getElem?_eq_getElem hj]
    rfl
  rw [e, h]
theorem bytS_keep {w w' : World} {A : Option Addr} {b : List Int} (h : BytS w A b) (hs : w.heap.size ≤ w'.heap.size) (hk : ∀ g o, 0 < b.length → A = some ⟨g, o, none⟩ → g < w.heap.size → w'.heap[g]? = w.heap[g]?) : BytS w' A b := fun hp => by
  obtain ⟨g, o, e, hg, hc⟩ := h hp
  refine ⟨g, o, e, Nat.lt_of_lt_of_le hg hs, fun j hj => ?_⟩
  rw [World.cell?_of_block (w := w) (a := ⟨g, o + j, none⟩) (hk g o hp e hg)]
  exact hc j hj
structure Itm where
  k : List Int
  v : List Int
  a : Option Addr
  c : Nat
  b : Option Addr
  d : Nat
def Itm.zero : Itm := ⟨[], [], none, 0, none, 0⟩
def xAt (L : List Itm) (j : Nat) : Itm := L.getD j Itm.zero
def cIm (x : Itm) : List Value := [.slice x.a x.k.length x.c, .slice x.b x.v.length x.d]
def iC (L : List Itm) : List Value := L.flatMap cIm
theorem iC_len (L : List Itm) : (iC L).length = L.length * 2 := by
  induction L with
  | nil => rfl
  | cons x L ih => simp only [iC, List.flatMap_cons, List.length_append] at *; rw [ih]; simp [cIm]; omega
theorem iC_app (a b : List Itm) : iC (a ++ b) = iC a ++ iC b := by simp [iC]
theorem iC_at (L : List Itm) (k r : Nat) (h : k < L.length) (hr : r < 2) : (iC L)[k * 2 + r]? = (cIm (xAt L k))[r]? := by
  induction L generalizing k with
  | nil => cases h
  | cons x L ih =>
    cases k with
    | zero =>
      rw [Nat.zero_mul, Nat.zero_add]
      unfold iC
      rw [List.flatMap_cons, List.getElem?_append_left (by simp [cIm]; omega)]
      rfl
    | succ k =>
      have := ih k (by simpa using h)
      unfold iC at this ⊢
      rw [List.flatMap_cons, List.getElem?_append_right (by simp [cIm]; omega)]
      rw [show (k + 1) * 2 + r - (cIm x).length = k * 2 + r by simp [cIm]; omega, this]
      rfl
theorem cI_one (x : Itm) : ∀ u ∈ cIm x, u.oneCell' = true := by
  intro u hu
  simp only [cIm, List.mem_cons, List.not_mem_nil, or_false] at hu
  rcases hu with rfl | rfl <;> rfl
structure ItR (base : Nat) (w : World) (v : Value) (L : List Itm) : Prop where
  row : w.ownsRow base 84 2 v L.length (iC L)
  byt : ∀ j, j < L.length → BytS w (xAt L j).a (xAt L j).k ∧ BytS w (xAt L j).b (xAt L j).v
  low : ∀ j, j < L.length → ∀ g o, ((xAt L j).a = some ⟨g, o, none⟩ → base ≤ g) ∧ ((xAt L j).b = some ⟨g, o, none⟩ → base ≤ g)
  sep : ∀ j, j < L.length → ∀ g o, (0 < (xAt L j).k.length → (xAt L j).a = some ⟨g, o, none⟩ → v.ownBlock ≠ some g) ∧ (0 < (xAt L j).v.length → (xAt L j).b = some ⟨g, o, none⟩ → v.ownBlock ≠ some g)
structure ItD (base : Nat) (w : World) (v : Value) (w' : World) (v' : Value) (L : List Itm) : Prop where
  rep : ItR base w' v' L
  below : Below base w w'
  keep : ∀ g, g < w.heap.size → v.ownBlock ≠ some g → w'.heap[g]? = w.heap[g]?
theorem ItR.nil (base : Nat) (w : World) : ItR base w (.slice none 0 0) [] :=
  ⟨World.ownsRow_nil w base 84 2, fun j hj => absurd hj (by simp), fun j hj => absurd hj (by simp), fun j hj => absurd hj (by simp)⟩
theorem ItR.after {base : Nat} {w u : World} {v : Value} {L : List Itm} (h : ItR base w v L) (b : Below w.heap.size w u) : ItR base u v L :=
  ⟨own_after h.row b, fun j hj => ⟨(h.byt j hj).1.after b, (h.byt j hj).2.after b⟩, h.low, h.sep⟩
theorem ItR.stay {base : Nat} {w u : World} {v : Value} {L : List Itm} (h : ItR base w v L) (hz : w.heap.size ≤ u.heap.size) (hs : ∀ g, base ≤ g → g < w.heap.size → u.heap[g]? = w.heap[g]?) : ItR base u v L :=
  ⟨own_same h.row (fun g e => hs g (h.row.lt g e).1 (h.row.lt g e).2), fun j hj => ⟨bytS_keep (h.byt j hj).1 hz (fun g o _ e l => hs g ((h.low j hj g o).1 e) l), bytS_keep (h.byt j hj).2 hz (fun g o _ e l => hs g ((h.low j hj g o).2 e) l)⟩, h.low, h.sep⟩
theorem xAt_app {L : List Itm} {x : Itm} {j : Nat} (h : j < (L ++ [x]).length) : (j < L.length ∧ xAt (L ++ [x]) j = xAt L j) ∨ (j = L.length ∧ xAt (L ++ [x]) j = x) := by
  unfold xAt
  rw [List.getD_eq_getElem?_getD, List.getD_eq_getElem?_getD]
  rw [List.length_append, List.length_singleton] at h
  by_cases c : j < L.length
  · exact .inl ⟨c, by rw [List.getElem?_append_left c]⟩
  · refine .inr ⟨by omega, ?_⟩
    rw [List.getElem?_append_right (by omega), show j - L.length = 0 by omega]
    rfl
theorem ItR.append {base : Nat} {w u : World} {v : Value} {L : List Itm} {ty : TypeId} (h : ItR base w v L) (hb : Below w.heap.size w u) (hbase : base ≤ w.heap.size) (x : Itm) (h1 : BytS u x.a x.k) (h2 : BytS u x.b x.v) (n1 : ∀ g o, x.a = some ⟨g, o, none⟩ → w.heap.size ≤ g) (n2 : ∀ g o, x.b = some ⟨g, o, none⟩ → w.heap.size ≤ g)
    {b : Nat} (hblk : Blk b (cIm x).toArray 84 u) (hn : L.length ≤ 100000) :
    ∃ v' w', (Builtin.append_ #[82, 82] ty #[v, .slice (some ⟨b, 0, none⟩) 1 1]).run Tryz.prog u = .ok v' w' ∧ ItD base w v w' v' (L ++ [x]) := by
  obtain ⟨i1, hi1, hz, q1, q2⟩ := info_parts (show (Tryz.prog.info? 84).map (fun i => (i.zero, i.size, i.bytes)) = some (some (.agg #[.slice none 0 0, .slice none 0 0]), 2, 48) by kernel_rfl)
  have hsz := hb.size
  have hnews : ∀ j c, (cIm x)[j]? = some c → u.cell? ((⟨b, 0, none⟩ : Addr).add j) = some c := by
    intro j c hc
    have hadd : (⟨b, 0, none⟩ : Addr).add j = ⟨b, j, none⟩ := by unfold Addr.add; split <;> simp_all
    rw [hadd, Blk.cell hblk j]
    simpa using hc
  obtain ⟨v', w', hr, ho, hg, _, hat⟩ := run_append_own_at (P := Tryz.prog) u base 82 ty 84 i1 (.agg #[.slice none 0 0, .slice none 0 0]) 2 48 Tryz.underlying82 hi1 hz q1 q2 rfl (by omega) v L.length (iC L) (own_after h.row hb) ⟨b, 0, none⟩ 1 1 (cIm x) rfl hnews (cI_one x) (by unfold maxLen; omega) (by omega) (by omega)
  have hold : ∀ g, g < u.heap.size → v.ownBlock ≠ some g → w'.heap[g]? = u.heap[g]? := fun g hl hne => hg.block g hl (fun e => hne e.symm)
  have hlow : ∀ g, v.ownBlock = some g → g < w.heap.size := fun g e => own_lt h.row e
  refine ⟨v', w', hr, ⟨⟨?_, fun j hj => ?_, fun j hj g o => ?_, fun j hj => ?_⟩, below_own (hb.mono hbase) (own_after h.row hb) (by omega) hg, fun g hl hne => (hold g (by omega) hne).trans (hb.block g hl)⟩⟩
  · rw [List.length_append, iC_app, show iC [x] = cIm x by simp [iC]]
    exact ho
  · rcases xAt_app hj with ⟨c, e⟩ | ⟨c, e⟩ <;> rw [e]
    · exact ⟨bytS_keep ((h.byt j c).1.after hb) hg.size (fun g o p q r => hold g r ((h.sep j c g o).1 p q)), bytS_keep ((h.byt j c).2.after hb) hg.size (fun g o p q r => hold g r ((h.sep j c g o).2 p q))⟩
    · exact ⟨bytS_keep h1 hg.size (fun g o p q r => hold g r (fun e => by have := hlow g e; have := n1 g o q; omega)), bytS_keep h2 hg.size (fun g o p q r => hold g r (fun e => by have := hlow g e; have := n2 g o q; omega))⟩
  · rcases xAt_app hj with ⟨c, e⟩ | ⟨c, e⟩ <;> rw [e]
    · exact h.low j c g o
    · exact ⟨fun q => Nat.le_trans hbase (n1 g o q), fun q => Nat.le_trans hbase (n2 g o q)⟩
  · have lt1 : ∀ (A : Option Addr) (l : List Int) g o, BytS u A l → 0 < l.length → A = some ⟨g, o, none⟩ → g < u.heap.size := fun A l g o q p e => by
      obtain ⟨g', o', e', hl, _⟩ := q p
      rw [e] at e'
      injection e' with e'
      injection e' with e'
      omega
    have key : ∀ g, g < u.heap.size → v.ownBlock ≠ some g → v'.ownBlock ≠ some g := fun g hl hne e => by
      rcases hat with k | k
      · exact hne (k ▸ e)
      · rw [k] at e
        injection e with e
        omega
    intro g o
    rcases xAt_app hj with ⟨c, e⟩ | ⟨c, e⟩ <;> rw [e]
    · exact ⟨fun p q => key g (lt1 _ _ g o ((h.byt j c).1.after hb) p q) ((h.sep j c g o).1 p q), fun p q => key g (lt1 _ _ g o ((h.byt j c).2.after hb) p q) ((h.sep j c g o).2 p q)⟩
    · exact ⟨fun p q => key g (lt1 _ _ g o h1 p q) (fun e => by have := hlow g e; have := n1 g o q; omega), fun p q => key g (lt1 _ _ g o h2 p q) (fun e => by have := hlow g e; have := n2 g o q; omega)⟩
def itL (L : List Itm) : List It := L.map fun x => (x.k, x.v)
theorem itL_at {L : List Itm} {k : Nat} : itA (itL L) k = ((xAt L k).k, (xAt L k).v) := by
  unfold itA itL xAt
  rw [List.getD_eq_getElem?_getD, List.getD_eq_getElem?_getD, List.getElem?_map]
  cases L[k]? <;> rfl
theorem ItR.items {base n c : Nat} {w : World} {A : Option Addr} {L : List Itm} (h : ItR base w (.slice A n c) L) : n = L.length ∧ ItemS w A (itL L) := by
  have hn : n = L.length := by
    obtain ⟨A2, c2, e, _, _⟩ := own_slice h.row
    injection e
  refine ⟨hn, fun hl => ?_⟩
  rw [itL, List.length_map] at hl
  subst hn
  obtain ⟨g, rfl, _, hg⟩ := own_addr h.row hl
  refine ⟨g, 0, rfl, hg, fun k hk => ?_⟩
  rw [itL, List.length_map] at hk
  have hc : ∀ r, r < 2 → w.cell? ⟨g, k * 2 + r, none⟩ = (cIm (xAt L k))[r]? := fun r hr => by rw [h.row.cellAt _ (by omega), iC_at _ k r hk hr]
  rw [itL_at, Nat.zero_add]
  exact ⟨_, _, _, _, hc 0 (by omega), hc 1 (by omega), (h.byt k hk).1, (h.byt k hk).2⟩
def Low (B gc : Nat) (v : Value) (A : Option Addr) (n : Nat) : Prop := ∀ g o, 0 < n → A = some ⟨g, o, none⟩ → B ≤ g ∧ g ≠ gc ∧ v.ownBlock ≠ some g
def CR.nv (r : CR) : Value := .slice r.na r.c.n.length r.nc
structure TC (B gc : Nat) (r : CR) (u : World) : Prop where
  blk : Blk gc (cCR r).toArray 59 u
  low : B ≤ gc
  ok : r.ok
  k : BytS u r.ka r.c.k
  kl : Low B gc r.nv r.ka r.c.k.length
  v : BytS u r.va r.c.v
  vl : Low B gc r.nv r.va r.c.v.length
  n : u.ownsRow B 42 1 r.nv r.c.n.length (nuC r.c.n)
  nl : r.nv.ownBlock ≠ some gc
section
variable {B gc : Nat} {r : CR} {u u' : World}
theorem bytS_stay {A : Option Addr} {b : List Int} (h : BytS u A b) (hs : u.heap.size ≤ u'.heap.size) (hk : ∀ g o, 0 < b.length → A = some ⟨g, o, none⟩ → u'.heap[g]? = u.heap[g]?) : BytS u' A b := bytS_keep h hs (fun g o h0 e _ => hk g o h0 e)
theorem setCell_size (w : World) (a : Addr) (v : Value) : (w.setCell a v).heap.size = w.heap.size := by simp [World.setCell]
theorem TC.after (h : TC B gc r u) (b : Below u.heap.size u u') : TC B gc r u' :=
  ⟨h.blk.after b, h.low, h.ok, h.k.after b, h.kl, h.v.after b, h.vl, own_after h.n b, h.nl⟩
theorem TC.cell (h : TC B gc r u) (r' : CR) (j : Nat) (x : Value) (hc : (cCR r).set j x = cCR r') (hok : r'.ok)
    (hk : r'.ka = r.ka ∧ r'.c.k = r.c.k ∨ BytS u r'.ka r'.c.k ∧ Low B gc r.nv r'.ka r'.c.k.length) (hv : r'.va = r.va ∧ r'.c.v = r.c.v ∨ BytS u r'.va r'.c.v ∧ Low B gc r.nv r'.va r'.c.v.length)
    (hn : r'.na = r.na ∧ r'.c.n = r.c.n ∧ r'.nc = r.nc) : TC B gc r' (u.setCell ⟨gc, j, none⟩ x) := by
  have env : r'.nv = r.nv := by unfold CR.nv; rw [hn.1, hn.2.1, hn.2.2]
  have other : ∀ g, g ≠ gc → (u.setCell ⟨gc, j, none⟩ x).heap[g]? = u.heap[g]? := fun g hg => Below.heap_setCell _ _ _ _ hg
  have st : ∀ {A : Option Addr} {b : List Int}, BytS u A b → Low B gc r.nv A b.length → BytS (u.setCell ⟨gc, j, none⟩ x) A b := fun hb hl => bytS_stay hb (by rw [setCell_size]; exact Nat.le_refl _) (fun g o h0 e => other g (hl g o h0 e).2.1)
  refine ⟨?_, h.low, hok, ?_, ?_, ?_, ?_, ?_, by rw [env]; exact h.nl⟩
  · rw [← hc]; exact blk_list h.blk j x
  · rcases hk with ⟨e1, e2⟩ | ⟨k1, k2⟩
    · rw [e1, e2]; exact st h.k h.kl
    · exact st k1 k2
  · rw [env]
    rcases hk with ⟨e1, e2⟩ | ⟨k1, k2⟩
    · rw [e1, e2]; exact h.kl
    · exact k2
  · rcases hv with ⟨e1, e2⟩ | ⟨k1, k2⟩
    · rw [e1, e2]; exact st h.v h.vl
    · exact st k1 k2
  · rw [env]
    rcases hv with ⟨e1, e2⟩ | ⟨k1, k2⟩
    · rw [e1, e2]; exact h.vl
    · exact k2
  · rw [env, hn.2.1]
    exact own_same h.n (fun k hk => other k (fun e => h.nl (by rw [hk, e])))
theorem TC.num (h : TC B gc r u) (hB : B ≤ u.heap.size) (b : Below u.heap.size u u') {w4 : World} {n : Int} {g cap : Nat} (hn : 0 ≤ n ∧ n ≤ 18446744073709551615) (hl : r.c.n.length ≤ 7)
    (ho : w4.ownsRow B 42 1 (.slice (some ⟨g, 0, none⟩) (r.c.n.length + 1) cap) (r.c.n.length + 1) (nuC r.c.n ++ [.int .u64 n])) (hg : u'.grownBy w4 r.nv.ownBlock) (hp : r.nv.ownBlock = some g ∨ g = u'.heap.size) (hlt : g < w4.heap.size) (hcap : r.c.n.length + 1 ≤ cap ∧ cap ≤ maxLen) :
    TC B gc { r with c := { r.c with n := r.c.n ++ [n] }, na := some ⟨g, 0, none⟩, nc := cap } (w4.setCell ⟨gc, 4, none⟩ (.slice (some ⟨g, 0, none⟩) (r.c.n.length + 1) cap)) ∧ Below B u' (w4.setCell ⟨gc, 4, none⟩ (.slice (some ⟨g, 0, none⟩) (r.c.n.length + 1) cap)) := by
  have h' := h.after b
  have hgc : gc < u'.heap.size := h'.blk.lt
  have ne : g ≠ gc := by
    rcases hp with c | c
    · intro e; exact h.nl (by rw [c, e])
    · omega
  have len : (r.c.n ++ [n]).length = r.c.n.length + 1 := by simp
  have keepB : ∀ x, x < u'.heap.size → r.nv.ownBlock ≠ some x → x ≠ gc → (w4.setCell ⟨gc, 4, none⟩ (.slice (some ⟨g, 0, none⟩) (r.c.n.length + 1) cap)).heap[x]? = u'.heap[x]? := fun x hx hn' hne => (Below.heap_setCell _ _ _ _ hne).trans (hg.block x hx (fun e => hn' e.symm))
  have lowK : ∀ (A : Option Addr) (m : Nat), (0 < m → ∀ g o, A = some ⟨g, o, none⟩ → g < u'.heap.size) → Low B gc r.nv A m → Low B gc (.slice (some ⟨g, 0, none⟩) (r.c.n ++ [n]).length cap) A m := fun A m hlt' hl' g1 o1 h0 e => by
    obtain ⟨a1, a2, a3⟩ := hl' g1 o1 h0 e
    refine ⟨a1, a2, fun e2 => ?_⟩
    have e3 : g = g1 := by simpa [Value.ownBlock] using e2
    rcases hp with c | c
    · exact a3 (by rw [c, e3])
    · have := hlt' h0 g1 o1 e; omega
  have ltOf : ∀ {A : Option Addr} {bb : List Int}, BytS u' A bb → 0 < bb.length → ∀ g o, A = some ⟨g, o, none⟩ → g < u'.heap.size := fun hb h0 g1 o1 e => by
    obtain ⟨g2, o2, e2, hlt2, _⟩ := hb h0
    rw [e] at e2
    cases e2
    exact hlt2
  have stB : ∀ {A : Option Addr} {bb : List Int}, BytS u' A bb → Low B gc r.nv A bb.length → BytS (w4.setCell ⟨gc, 4, none⟩ (.slice (some ⟨g, 0, none⟩) (r.c.n.length + 1) cap)) A bb := fun hb hl' =>
    bytS_keep hb (by rw [setCell_size]; exact hg.size) (fun g1 o1 h0 e hlt1 => keepB g1 hlt1 (hl' g1 o1 h0 e).2.2 (hl' g1 o1 h0 e).2.1)
  refine ⟨⟨?_, h.low, ⟨⟨h.ok.c.1, h.ok.c.2.1, ?_, h.ok.c.2.2.2.1, h.ok.c.2.2.2.2.1, by show (r.c.n ++ [n]).length ≤ 8; omega, h.ok.c.2.2.2.2.2.2⟩, h.ok.k, h.ok.v, by show (r.c.n ++ [n]).length ≤ cap ∧ _; rw [len]; exact hcap⟩, stB h'.k h'.kl, ?_, stB h'.v h'.vl, ?_, ?_, ?_⟩, ?_⟩
  · have hb : Blk gc (cCR r).toArray 59 w4 := h'.blk.same (hg.block gc hgc (fun e => h.nl e.symm))
    have := blk_list hb 4 (.slice (some ⟨g, 0, none⟩) (r.c.n.length + 1) cap)
    have e : cCR { r with c := { r.c with n := r.c.n ++ [n] }, na := some ⟨g, 0, none⟩, nc := cap } = (cCR r).set 4 (.slice (some ⟨g, 0, none⟩) (r.c.n.length + 1) cap) := by
      unfold cCR
      rw [len]
      rfl
    rw [e]
    exact this
  · intro j hj
    show 0 ≤ bAt (r.c.n ++ [n]) j ∧ _
    have hj' : j < (r.c.n ++ [n]).length := hj
    rw [len] at hj'
    unfold bAt
    rw [List.getD_eq_getElem?_getD]
    by_cases c : j < r.c.n.length
    · rw [List.getElem?_append_left c]
      have := h.ok.c.2.2.1 j c
      unfold bAt at this
      rwa [List.getD_eq_getElem?_getD] at this
    · rw [List.getElem?_append_right (by omega), show j - r.c.n.length = 0 by omega]
      exact hn
  · exact lowK _ _ (fun h0 g1 o1 e => ltOf h'.k h0 g1 o1 e) h.kl
  · exact lowK _ _ (fun h0 g1 o1 e => ltOf h'.v h0 g1 o1 e) h.vl
  · show World.ownsRow _ B _ 1 (.slice (some ⟨g, 0, none⟩) (r.c.n ++ [n]).length cap) (r.c.n ++ [n]).length (nuC (r.c.n ++ [n]))
    rw [len, nuC_app]
    exact own_same ho (fun k hk => Below.heap_setCell _ _ _ _ (fun e => by
      have e3 : g = k := by simpa [Value.ownBlock] using hk
      exact ne (by rw [e3]; exact e)))
  · show Value.ownBlock (.slice (some ⟨g, 0, none⟩) (r.c.n ++ [n]).length cap) ≠ some gc
    intro e
    exact ne (by simpa [Value.ownBlock] using e)
  · have hBu : B ≤ u'.heap.size := Nat.le_trans hB b.size
    have bg : Below B u' w4 := ⟨hg.os, hg.tape, hg.output, hg.size, fun k hk => hg.block k (Nat.lt_of_lt_of_le hk hBu) (fun e => by
      have := (h'.n.lt k e.symm).1
      omega)⟩
    exact bg.setCell (p := ⟨gc, 4, none⟩) h.low _
end
end Go.Proofs.YtlbhffdpklbhfaaGreat
