/-
  Texts, one behind the other: Tab1, Mem2, Tab2.
  Conditions: those that each theorem states.
-/
import Derived.StringKeys
import Derived.Test.YtfniahmfoigceaaGreatPz6
import Derived.Test.YtfniahmfoigceaaGreatPz7
import Derived.Laws.CopyOwn
import Derived.LoopTactic

namespace Go.Proofs.YtfniahmfoigceaaGreat
open Go Go.RowKit
open Go.Maps (Keyed)
set_option maxRecDepth 100000
set_option linter.unusedVariables false
set_option linter.unusedSimpArgs false

/-- Slots by keys, as a map of the language holds them. -/
def strM (K : List TK) : Lit → Option Value
  | .string s => (K.find? fun x => (strOfNums x.k).toList == s).map fun x => .int .i64 (x.s : Int)
  | _ => none
def kLit (key : List Int) : Lit := .string (strOfNums key).toList
def sV : Option Nat → Option Value
  | none => none
  | some n => some (.int .i64 (n : Int))
theorem find_cong {α : Type} {p q : α → Bool} : ∀ {l : List α}, (∀ x ∈ l, p x = q x) → l.find? p = l.find? q
  | [], _ => rfl
  | a :: r, h => by
    rw [List.find?_cons, List.find?_cons, h a (List.mem_cons_self ..), find_cong (l := r) fun x hx => h x (List.mem_cons_of_mem _ hx)]
theorem str_find {K : List TK} (hK : ∀ x ∈ K, OkB x.k) {key : List Int} (hk : OkB key) : strM K (kLit key) = sV (tFind K key) := by
  unfold strM kLit tFind
  have e : K.find? (fun x => (strOfNums x.k).toList == (strOfNums key).toList) = K.find? (fun x => x.k == key) :=
    find_cong fun x hx => eq_str (hK x hx) hk
  simp only
  rw [e]
  cases K.find? (fun x => x.k == key) <;> rfl
theorem find_skip {α : Type} {p : α → Bool} {A B : List α} {x : α} (h : p x = false) : (A ++ x :: B).find? p = (A ++ B).find? p := by
  rw [List.find?_append, List.find?_append, List.find?_cons, h]
theorem str_put {K : List TK} (hK : ∀ x ∈ K, OkB x.k) {x : TK} (hx : OkB x.k) (hn : tFind K x.k = none) (kl : Lit) : strM (tIns K x) kl = putM (strM K) (kLit x.k) (some (.int .i64 (x.s : Int))) kl := by
  by_cases h : kl = kLit x.k
  · subst h
    rw [putM_same]
    show ((tIns K x).find? fun y => (strOfNums y.k).toList == (strOfNums x.k).toList).map _ = _
    have hs : tIns K x = K.takeWhile (fun y => kLt y.k x.k) ++ x :: K.dropWhile (fun y => kLt y.k x.k) := rfl
    rw [hs, List.find?_append, List.find?_eq_none.2 (fun y hy => ?_), Option.none_or, List.find?_cons]
    · simp
    · have hy' : y ∈ K := (List.takeWhile_sublist _).subset hy
      unfold tFind at hn
      rw [Option.map_eq_none_iff, List.find?_eq_none] at hn
      rw [eq_str (hK y hy') hx]
      exact hn y hy'
  · rw [putM_other h]
    unfold strM
    split
    · rename_i s
      congr 1
      have hs : tIns K x = K.takeWhile (fun y => kLt y.k x.k) ++ x :: K.dropWhile (fun y => kLt y.k x.k) := rfl
      rw [hs, find_skip, List.takeWhile_append_dropWhile]
      unfold kLit at h
      rw [Bool.eq_false_iff]
      intro e
      rw [beq_iff_eq] at e
      exact h (by rw [e])
    · rfl
theorem str_drop {K : List TK} (hK : ∀ x ∈ K, OkB x.k) {key : List Int} (hk : OkB key) (kl : Lit) : strM (leftK K key) kl = putM (strM K) (kLit key) none kl := by
  by_cases h : kl = kLit key
  · subst h
    unfold leftK
    rw [putM_same, str_find (fun x hx => hK x (List.mem_filter.1 hx).1) hk]
    have e : tFind (K.filter fun x => !(x.k == key)) key = none := by
      unfold tFind
      rw [List.find?_eq_none.2]
      · rfl
      · intro x hx
        have := (List.mem_filter.1 hx).2
        simpa using this
    rw [e]
    rfl
  · rw [putM_other h]
    unfold strM
    split
    · rename_i s
      congr 1
      unfold leftK
      rw [List.find?_filter]
      refine find_cong fun x hx => ?_
      by_cases e : x.k = key
      · have : ((strOfNums x.k).toList == s) = false := by
          rw [Bool.eq_false_iff]
          intro e2
          rw [beq_iff_eq] at e2
          exact h (by unfold kLit; rw [← e, e2])
        simp [e]
        rw [← e]
        simpa using this
      · have e2 : (!(x.k == key)) = true := by simp [e]
        rw [e2]
        simp only [true_and]
        cases ((strOfNums x.k).toList == s) <;> rfl
    · rfl
/-- A map's slots, where they lie. -/
def SlotR (w : World) (mv : Value) (K : List TK) : Prop := (mv = .map none ∧ K = []) ∨ ∃ b, mv = .map (some b) ∧ MapIs Tryz.prog 9 w b K.length (strM K)
theorem SlotR.same {w w' : World} {mv : Value} {K : List TK} (h : SlotR w mv K) (hs : ∀ x, (mvO mv).ownBlock = some x → w'.heap[x]? = w.heap[x]?) : SlotR w' mv K := by
  rcases h with h | ⟨b, rfl, h⟩
  · exact .inl h
  · exact .inr ⟨b, rfl, h.same (hs b rfl)⟩
theorem SlotR.lt {w : World} {mv : Value} {K : List TK} (h : SlotR w mv K) {x : Nat} (hx : (mvO mv).ownBlock = some x) : x < w.heap.size := by
  rcases h with ⟨rfl, _⟩ | ⟨b, rfl, h⟩
  · cases hx
  · cases hx; exact h.lt
theorem SlotR.is {w : World} {b : Nat} {K : List TK} (h : SlotR w (.map (some b)) K) : MapIs Tryz.prog 9 w b K.length (strM K) := by
  rcases h with ⟨h, _⟩ | ⟨c, h, h'⟩
  · cases h
  · cases h; exact h'
theorem strK : Keyed Tryz.prog 9 := Maps.string_keyed Tryz.underlying9
theorem str_size (key : List Int) : (strOfNums key).size = key.length := by
  have := congrArg List.length (strOfNums_data key)
  simpa using this
theorem keyOf_key {key : List Int} (hl : key.length ≤ maxLen) : keyOf Tryz.prog 9 (.string (strOfNums key)) = some (kLit key) := by
  rw [WideMaps.keyOf_string_mk Tryz.underlying9 (by rw [str_size]; exact hl)]
  unfold kLit
  rw [Lib.toList_data]
/-- 'slot, there := slots[key]'. -/
theorem SlotR.look {w : World} {mv : Value} {K : List TK} (h : SlotR w mv K) (hK : ∀ x ∈ K, OkB x.k) {key : List Int} (hk : OkB key) (hl : key.length ≤ maxLen) :
    (Instr.lookup 116 mv (.string (strOfNums key)) true).run Tryz.prog w = .ok (.tuple #[.int .i64 (((tFind K key).getD 0 : Nat) : Int), .bool (tFind K key).isSome]) w := by
  have hz : (zeroValue 3).run Tryz.prog w = .ok (.int .i64 0) w := rfl
  rcases h with ⟨rfl, rfl⟩ | ⟨b, rfl, h⟩
  · exact Maps.look_nil true strK Tryz.underlying116 hz (keyOf_key hl)
  · rw [h.look strK Tryz.underlying116 hz (keyOf_key hl), str_find hK hk]
    unfold sV
    cases tFind K key <;> rfl
/-- The program's maps, by place. -/
def qBlk (gt : Nat) (vl : Value) (L : List TR) (p : Nat) : Option Nat := if p = 0 then some gt else if p = 1 then vl.ownBlock else (mvO (trAt L (p - 2)).v).ownBlock
theorem qBlk_k (gt : Nat) (vl : Value) (L : List TR) (k : Nat) : qBlk gt vl L (k + 2) = (mvO (trAt L k).v).ownBlock := by
  unfold qBlk
  rw [if_neg (by omega), if_neg (by omega), show k + 2 - 2 = k by omega]
theorem qBlk_cases {gt : Nat} {vl : Value} {L : List TR} {p x : Nat} (h : qBlk gt vl L p = some x) :
    (p = 0 ∧ x = gt) ∨ (p = 1 ∧ vl.ownBlock = some x) ∨ ∃ k, k < L.length ∧ p = k + 2 ∧ (mvO (trAt L k).v).ownBlock = some x := by
  unfold qBlk at h
  by_cases h0 : p = 0
  · rw [if_pos h0] at h; cases h; exact .inl ⟨h0, rfl⟩
  rw [if_neg h0] at h
  by_cases h1 : p = 1
  · rw [if_pos h1] at h; exact .inr (.inl ⟨h1, h⟩)
  rw [if_neg h1] at h
  have hk : p - 2 < L.length := by
    rcases Nat.lt_or_ge (p - 2) L.length with c | c
    · exact c
    · rw [trAt_out c] at h
      cases h
  exact .inr (.inr ⟨p - 2, hk, by omega, h⟩)
structure RepV (w : World) (gt gm : Nat) (vl : Value) (L : List TR) (F : Nat → Prop) : Prop where
  blk : Blk gt #[.pointer (some ⟨gm, 0, none⟩), vl] 115 w
  row : w.ownsRow 0 118 6 vl L.length (trC L)
  own : ∀ k, k < L.length → SlotR w (trAt L k).v (trAt L k).m.L
  apart : ∀ p q x, qBlk gt vl L p = some x → qBlk gt vl L q = some x → p = q
  foot : ∀ x, F x ↔ ∃ p, qBlk gt vl L p = some x
/-- A block that holds the program's maps. -/
structure TFull (T : TT) : Prop where
  ok : TOk T
  full : ∀ k, k < T.length → (mt T k).d.hash = false → ((mt T k).L.length : Int) = (mt T k).d.max
def RepU (w : World) (gt gm : Nat) (T : TT) (F : Nat → Prop) : Prop := ∃ vl L, T = trM L ∧ RepV w gt gm vl L F ∧ TFull T ∧ ∀ k, k < L.length → (trAt L k).v ≠ .map none
section
variable {w w' u : World} {gt gm : Nat} {vl : Value} {L : List TR} {F : Nat → Prop} {T : TT}
theorem RepV.foot0 (h : RepV w gt gm vl L F) : F gt := (h.foot gt).mpr ⟨0, rfl⟩
theorem RepV.foot1 (h : RepV w gt gm vl L F) {x : Nat} (hx : vl.ownBlock = some x) : F x := (h.foot x).mpr ⟨1, hx⟩
theorem RepV.footK (h : RepV w gt gm vl L F) {x k : Nat} (hx : (mvO (trAt L k).v).ownBlock = some x) : F x := (h.foot x).mpr ⟨k + 2, (qBlk_k gt vl L k).trans hx⟩
theorem RepV.lt (h : RepV w gt gm vl L F) {x : Nat} (hx : F x) : x < w.heap.size := by
  obtain ⟨p, hp⟩ := (h.foot x).mp hx
  rcases qBlk_cases hp with ⟨_, rfl⟩ | ⟨_, hx⟩ | ⟨k, hk, _, hx⟩
  · exact Blk.lt h.blk
  · exact own_lt h.row hx
  · exact (h.own k hk).lt hx
theorem RepV.keep (h : RepV w gt gm vl L F) (hs : ∀ x, F x → w'.heap[x]? = w.heap[x]?) : RepV w' gt gm vl L F :=
  ⟨Blk.same h.blk (hs gt h.foot0), own_same h.row (fun k hk => hs k (h.foot1 hk)), fun k hk => (h.own k hk).same (fun x hx => hs x (h.footK hx)), h.apart, h.foot⟩
theorem RepV.after (h : RepV w gt gm vl L F) (b : Below w.heap.size w u) : RepV u gt gm vl L F := h.keep fun x hx => b.block x (h.lt hx)
theorem RepV.turn {G : Nat → Prop} (h : RepV w gt gm vl L F) (k : Turn G w w') (hG : ∀ x, F x → ¬ G x) : RepV w' gt gm vl L F := h.keep fun x hx => k.block x (h.lt hx) (hG x hx)
theorem RepU.lt (h : RepU w gt gm T F) {x : Nat} (hx : F x) : x < w.heap.size := by
  obtain ⟨vl, L, _, h, _⟩ := h
  exact h.lt hx
theorem RepU.turn {G : Nat → Prop} (h : RepU w gt gm T F) (k : Turn G w w') (hG : ∀ x, F x → ¬ G x) : RepU w' gt gm T F := by
  obtain ⟨vl, L, e, h, r⟩ := h
  exact ⟨vl, L, e, h.turn k hG, r⟩
theorem RepU.after (h : RepU w gt gm T F) (k : Below w.heap.size w w') : RepU w' gt gm T F := h.turn (Turn.of_below (F := fun _ => False) k) (fun _ _ x => x)
theorem RepU.ok (h : RepU w gt gm T F) : TOk T := by
  obtain ⟨vl, L, rfl, _, h, _⟩ := h
  exact h.ok
theorem RepV.cells (h : RepV w gt gm vl L F) : w.cell? ⟨gt, 0, none⟩ = some (.pointer (some ⟨gm, 0, none⟩)) ∧ w.cell? ⟨gt, 1, none⟩ = some vl := ⟨Blk.cell h.blk 0, Blk.cell h.blk 1⟩
/-- A map in the row. -/
theorem RepV.at_ (h : RepV w gt gm vl L F) {k : Nat} (hk : k < L.length) : ∃ gl c, vl = .slice (some ⟨gl, 0, none⟩) L.length c ∧ L.length ≤ c ∧ c ≤ maxLen ∧ gl < w.heap.size ∧
    w.cell? ⟨gl, k * 6, none⟩ = some (.bool (trAt L k).m.d.hash) ∧ w.cell? ⟨gl, k * 6 + 1, none⟩ = some (.int .i64 (trAt L k).m.d.key) ∧ w.cell? ⟨gl, k * 6 + 2, none⟩ = some (.int .i64 (trAt L k).m.d.val) ∧ w.cell? ⟨gl, k * 6 + 3, none⟩ = some (.int .i64 (trAt L k).m.d.max) ∧
    w.cell? ⟨gl, k * 6 + 4, none⟩ = some (trAt L k).v ∧ w.cell? ⟨gl, k * 6 + 5, none⟩ = some (.int .i64 ((trAt L k).m.made : Int)) := by
  obtain ⟨A, c, rfl, k1, k2⟩ := own_slice h.row
  obtain ⟨gl, rfl, _, hg⟩ := own_addr h.row (by omega)
  have hc : ∀ r, r < 6 → w.cell? ⟨gl, k * 6 + r, none⟩ = (cT (trAt L k))[r]? := fun r hr => by
    rw [h.row.cellAt _ (by omega), trC_at L k r hk hr]
  exact ⟨gl, c, rfl, k1, k2, hg, hc 0 (by omega), hc 1 (by omega), hc 2 (by omega), hc 3 (by omega), hc 4 (by omega), hc 5 (by omega)⟩
/-- One map's content has become another one: its slots, in the same block or in a new one; the row too. -/
theorem RepV.put {k : Nat} {r : TR} (h : RepV w gt gm vl L F) (hk : k < L.length) (hs : ∀ x, F x → vl.ownBlock ≠ some x → (mvO (trAt L k).v).ownBlock ≠ some x → u.heap[x]? = w.heap[x]?) (hrow : u.ownsRow 0 118 6 vl L.length (trC (L.set k r))) (hown : SlotR u r.v r.m.L)
    (hnew : r.v = (trAt L k).v ∨ ∀ x, (mvO r.v).ownBlock = some x → w.heap.size ≤ x) : ∃ F', RepV u gt gm vl (L.set k r) F' ∧ ∀ x, F' x → F x ∨ w.heap.size ≤ x := by
  have hlen : (L.set k r).length = L.length := List.length_set
  have hF : ∀ p x, qBlk gt vl L p = some x → x < w.heap.size := fun p x hx => h.lt ((h.foot x).mpr ⟨p, hx⟩)
  have hb : ∀ p x, qBlk gt vl (L.set k r) p = some x → (qBlk gt vl L p = some x) ∨ (p = k + 2 ∧ w.heap.size ≤ x) := fun p x hx => by
    rcases qBlk_cases hx with ⟨h1, h2⟩ | ⟨h1, h2⟩ | ⟨j, hj, h1, h2⟩
    · exact .inl (by rw [h1, h2]; rfl)
    · exact .inl (by rw [h1]; exact h2)
    · rw [trAt_set hk] at h2
      by_cases e : j = k
      · rw [if_pos e] at h2
        rcases hnew with hn | hn
        · rw [hn] at h2; exact .inl (by rw [h1, qBlk_k, e]; exact h2)
        · exact .inr ⟨by omega, hn x h2⟩
      · rw [if_neg e] at h2; exact .inl (by rw [h1, qBlk_k]; exact h2)
  have gne : vl.ownBlock ≠ some gt := fun e => by have := h.apart 1 0 gt e rfl; omega
  have gnk : (mvO (trAt L k).v).ownBlock ≠ some gt := fun e => by have := h.apart (k + 2) 0 gt ((qBlk_k gt vl L k).trans e) rfl; omega
  refine ⟨fun x => ∃ p, qBlk gt vl (L.set k r) p = some x, ⟨Blk.same h.blk (hs gt h.foot0 gne gnk), by rw [hlen]; exact hrow, fun j hj => ?_, fun p q x hp hq => ?_, fun x => Iff.rfl⟩, ?_⟩
  · rw [hlen] at hj
    rw [trAt_set hk]
    by_cases e : j = k
    · rw [if_pos e]; exact hown
    · rw [if_neg e]
      refine (h.own j hj).same (fun x hx => hs x (h.footK hx) (fun e2 => ?_) (fun e2 => ?_))
      · have := h.apart 1 (j + 2) x e2 ((qBlk_k gt vl L j).trans hx)
        omega
      · have := h.apart (k + 2) (j + 2) x ((qBlk_k gt vl L k).trans e2) ((qBlk_k gt vl L j).trans hx)
        omega
  · rcases hb p x hp with a2 | ⟨a1, a2⟩ <;> rcases hb q x hq with b2 | ⟨b1, b2⟩
    · exact h.apart p q x a2 b2
    · have := hF p x a2; omega
    · have := hF q x b2; omega
    · omega
  · rintro x ⟨p, hp⟩
    rcases hb p x hp with a2 | ⟨_, a2⟩
    · exact .inl ((h.foot x).mpr ⟨p, a2⟩)
    · exact .inr a2
end

end Go.Proofs.YtfniahmfoigceaaGreat

namespace Go.Proofs.YtfniahmfoigceaaGreat
open Go.RowKit
set_option maxRecDepth 100000
set_option linter.unusedVariables false
set_option linter.unusedSimpArgs false

/-- Bytes made, each 0. -/
theorem make_bytes (w : World) (n : Nat) (hn : n ≤ 100000) : (Instr.makeSlice 23 (.int .i64 (n : Int)) (.int .i64 (n : Int))).run Tryz.prog w = .ok (.slice (some ⟨w.heap.size, 0, none⟩) n n) (w.alloc (.cells (byC (List.replicate n 0)).toArray 5)) := by
  obtain ⟨i, hi, hz, h1, h2⟩ := info_parts (show (Tryz.prog.info? 5).map (fun i => (i.zero, i.size, i.bytes)) = some (some (.int .u8 0), 1, 1) by kernel_rfl)
  have hr := run_make (P := Tryz.prog) w 23 5 i (.int .u8 0) Tryz.underlying23 hi hz .i64 .i64 n n (by omega) (Int.le_refl _) (by rw [h2]; omega) (by omega)
  rw [hr, h1]
  simp only [Int.toNat_natCast, Nat.mul_one]
  have e : madeCells (Value.int .u8 0).cells n = (byC (List.replicate n 0)).toArray := by
    apply Array.ext'
    rw [byC_zeros]
    exact toList_madeCells_one _ _
  rw [e]
/-- Bools made, none of them set. -/
theorem make_bools (w : World) (n : Nat) (hn : n ≤ 100000) : (Instr.makeSlice 105 (.int .i64 (n : Int)) (.int .i64 (n : Int))).run Tryz.prog w = .ok (.slice (some ⟨w.heap.size, 0, none⟩) n n) (w.alloc (.cells (boC (List.replicate n false)).toArray 4)) := by
  obtain ⟨i, hi, hz, h1, h2⟩ := info_parts (show (Tryz.prog.info? 4).map (fun i => (i.zero, i.size, i.bytes)) = some (some (.bool false), 1, 1) by kernel_rfl)
  have hr := run_make (P := Tryz.prog) w 105 4 i (.bool false) Tryz.underlying105 hi hz .i64 .i64 n n (by omega) (Int.le_refl _) (by rw [h2]; omega) (by omega)
  rw [hr, h1]
  simp only [Int.toNat_natCast, Nat.mul_one]
  have e : madeCells (Value.bool false).cells n = (boC (List.replicate n false)).toArray := by
    apply Array.ext'
    rw [show boC (List.replicate n false) = List.replicate n (.bool false) by simp [boC]]
    exact toList_madeCells_one _ _
  rw [e]
/-- A row that fills its block. -/
theorem own_full {w : World} {g n base : Nat} {e : TypeId} {xs : List Value} (h : w.heap[g]? = some (.cells xs.toArray e (0, 0))) (hx : xs.length = n) (hn : n ≤ 100000) (hb : base ≤ g) : w.ownsRow base e 1 (.slice (some ⟨g, 0, none⟩) n n) n xs :=
  ⟨by rw [hx]; omega, .inr ⟨g, n, _, rfl, hb, h, Nat.le_refl _, by unfold maxLen; omega, by simp [hx], by rw [List.take_of_length_le]; simp; omega⟩⟩

set_option maxRecDepth 100000 in
set_option maxHeartbeats 2000000 in
theorem c8_own (w : World) (A : Option Addr) (b : List Int) (n d : Nat) (hb : BytS w A b) (hn : b.length = n) (hs : n ≤ 100000) :
    Calls Tryz.prog 141 #[.slice A n d] w (fun e w' => ∃ g, e = .returned (.slice (some ⟨g, 0, none⟩) n n) ∧ w'.ownsRow w.heap.size 5 1 (.slice (some ⟨g, 0, none⟩) n n) n (byC b) ∧ Below w.heap.size w w') := by
  have hm := make_bytes w n hs
  have HB := Lib.hid hb
  have HN := Lib.hid hn
  have HS := Lib.hid hs
  clear hb hn
  have HF : Hid (∀ (w' : World) (g : Nat), w'.heap[g]? = some (.cells (splice (byC (List.replicate n 0)) 0 (byC b)).toArray 5 (0, 0)) → w.heap.size ≤ g → w'.ownsRow w.heap.size 5 1 (.slice (some ⟨g, 0, none⟩) n n) n (byC b)) := Lib.hid fun w' g h hg => by
    have e : splice (byC (List.replicate n 0)) 0 (byC b) = byC b := by
      unfold splice
      simp only [List.take_zero, List.nil_append, Nat.zero_add, byC_len, HN.out]
      rw [List.drop_eq_nil_of_le (by rw [byC_len, List.length_replicate]; omega), List.append_nil]
    rw [e] at h
    exact own_full h (by rw [byC_len]; exact HN.out) HS.out hg
  obtain ⟨cs, hcs⟩ : ∃ cs, cs = byC b := ⟨_, rfl⟩
  obtain ⟨zs, hzs⟩ : ∃ zs, zs = byC (List.replicate n 0) := ⟨_, rfl⟩
  rw [← hcs, ← hzs] at HF
  rw [← hcs]
  rw [← hzs] at hm
  have CL : Hid (cs.length = n) := Lib.hid (by rw [hcs, byC_len]; exact HN.out)
  have ZL : Hid (zs.length = n) := Lib.hid (by rw [hzs, byC_len, List.length_replicate])
  have CO : Hid (∀ v ∈ cs, v.oneCell' = true) := Lib.hid (by rw [hcs]; exact byC_one b)
  have SRC : Hid (∀ u : World, Below w.heap.size w u → 0 < cs.length → ∃ ad, A = some ad ∧ ∀ j v, cs[j]? = some v → u.cell? (ad.add j) = some v) := Lib.hid fun u hu hp => by
    rw [hcs, byC_len] at hp
    obtain ⟨g, o, rfl, hg, hc⟩ := HB.out.after hu hp
    refine ⟨_, rfl, fun j v hv => ?_⟩
    rw [hcs] at hv
    exact byt_news ⟨hg, hc⟩ j v hv
  clear hcs hzs HB HN
  have NW : Hid ((w.alloc (.cells zs.toArray 5)).heap[w.heap.size]? = some (.cells zs.toArray 5 (0, 0))) := Lib.hid (Blk.new w zs.toArray 5 rfl)
  have BW : Hid (Below w.heap.size w (w.alloc (.cells zs.toArray 5))) := Lib.hid (below_alloc (Below.refl _ _) _)
  generalize w.alloc (.cells zs.toArray 5) = w1 at *
  go_enter Tryz.func141, Tryz.ntmps141
  go_wp2_with ((refine wpList_copy_splice rfl (.tmp 7) (.tmp 8) _ _ rfl 5 Tryz.underlying23 (by kernel_rfl) _ _ _ _ _ _ rfl rfl w.heap.size 0 zs 5 NW.out cs (by rw [CL.out]; exact (Nat.min_self n).symm) (fun hp => ⟨rfl, SRC.out _ BW.out hp⟩) (by rw [CL.out, ZL.out]; omega) CO.out w.heap.size w BW.out (Nat.le_refl _) ?_))
  intro w2 HG hB
  have V := Lib.hid hB
  clear hB
  go_wp2_with fail
  go_ret
  exact ⟨_, rfl, HF.out _ _ HG.out (Nat.le_refl _), V.out⟩

set_option maxRecDepth 100000 in
theorem c8_isOf (s : Int) (w : World) : Calls Tryz.prog 162 #[.int .i64 s] w (Gives (.bool (fitsZ s)) w) := by
  unfold fitsZ
  cases h1 : (s == 1) <;> cases h2 : (s == 2) <;> cases h4 : (s == 4) <;> cases h8 : (s == 8) <;>
  (go_enter Tryz.func162, Tryz.ntmps162
   go_wp2_with fail
   go_ret
   exact ⟨rfl, Below.refl _ _⟩)
theorem c8_At (a o : Int) (w : World) : Calls Tryz.prog 20 #[.int .i64 a, .int .i64 o] w (Gives (.int .u64 (atI a o)) w) := by
  go_enter Tryz.func20, Tryz.ntmps20
  go_wp2_with fail
  go_ret
  refine ⟨?_, Below.refl _ _⟩
  apply end_int
  unfold atI
  simp only [IntKind.wrap_u64]
  omega

end Go.Proofs.YtfniahmfoigceaaGreat

namespace Go.Proofs.YtfniahmfoigceaaGreat
open Go.RowKit
set_option maxRecDepth 100000
set_option linter.unusedVariables false
set_option linter.unusedSimpArgs false

/-- A map, as a value. -/
def kV (r : TR) : Value := .agg #[.bool r.m.d.hash, .int .i64 r.m.d.key, .int .i64 r.m.d.val, .int .i64 r.m.d.max, r.v, .int .i64 (r.m.made : Int)]
theorem q9_Area (i s : Int) (w : World) (hi : 0 ≤ i ∧ i ≤ 100000) (hs : 0 ≤ s ∧ s ≤ 100000) : Calls Tryz.prog 99 #[.int .i64 i, .int .i64 s] w (Gives (.int .i64 (tArea i s)) w) := by
  go_enter Tryz.func99, Tryz.ntmps99
  go_wp2_with fail
  go_ret
  exact ⟨end_int (by unfold tArea; omega), Below.refl _ _⟩
theorem q9_has (w : World) (gt gm : Nat) (T : TT) (F : Nat → Prop) (i : Int) (h : RepU w gt gm T F) :
    Calls Tryz.prog 135 #[.pointer (some ⟨gt, 0, none⟩), .int .i64 i] w (Gives (.bool (decide (0 ≤ i) && decide (i < T.length))) w) := by
  obtain ⟨vl, L, rfl, h, -⟩ := h
  obtain ⟨A, c, hvl, k1, k2⟩ := own_slice h.row
  obtain ⟨c0, c1⟩ := h.cells
  rw [hvl] at c1
  rw [trM_len]
  clear h hvl
  unfold maxLen at k2
  by_cases h1 : 0 ≤ i
  · rw [decide_eq_true h1, Bool.true_and]
    by_cases h2 : i < (L.length : Int)
    · rw [decide_eq_true h2]
      go_enter Tryz.func135, Tryz.ntmps135
      go_wp2_with fail
      go_ret
      exact ⟨rfl, Below.refl _ _⟩
    · rw [decide_eq_false h2]
      have h2' : (L.length : Int) ≤ i := by omega
      go_enter Tryz.func135, Tryz.ntmps135
      go_wp2_with fail
      go_ret
      exact ⟨rfl, Below.refl _ _⟩
  · rw [decide_eq_false h1, Bool.false_and]
    have h1' : i < 0 := by omega
    go_enter Tryz.func135, Tryz.ntmps135
    go_wp2_with fail
    go_ret
    exact ⟨rfl, Below.refl _ _⟩


def kZ : Value := .agg #[.bool false, .int .i64 0, .int .i64 0, .int .i64 0, .map none, .int .i64 0]
theorem Blk.six {g : Nat} {a b c d e f : Value} {t : TypeId} {w : World} (h : Blk g #[a, b, c, d, e, f] t w) :
    (w.cell? ⟨g, 0, none⟩ = some a ∧ w.cell? ⟨g, 1, none⟩ = some b ∧ w.cell? ⟨g, 2, none⟩ = some c ∧ w.cell? ⟨g, 3, none⟩ = some d ∧ w.cell? ⟨g, 4, none⟩ = some e ∧ w.cell? ⟨g, 5, none⟩ = some f) ∧
    (w.frozen? ⟨g, 0, none⟩ = false ∧ w.frozen? ⟨g, 1, none⟩ = false ∧ w.frozen? ⟨g, 2, none⟩ = false ∧ w.frozen? ⟨g, 3, none⟩ = false ∧ w.frozen? ⟨g, 4, none⟩ = false ∧ w.frozen? ⟨g, 5, none⟩ = false) :=
  ⟨⟨Blk.cell h 0, Blk.cell h 1, Blk.cell h 2, Blk.cell h 3, Blk.cell h 4, Blk.cell h 5⟩, Blk.free h 0, Blk.free h 1, Blk.free h 2, Blk.free h 3, Blk.free h 4, Blk.free h 5⟩
theorem cell_on {w u : World} {p : Addr} {v : Value} (h : w.cell? p = some v) (b : Below w.heap.size w u) : u.cell? p = some v := (Below.cell b (World.block_lt_of_cell? w p h)).trans h
/-- Six cells, stored. -/
def six (w : World) (g : Nat) (a b c d e f : Value) : World := (((((w.setCell ⟨g, 0, none⟩ a).setCell ⟨g, 1, none⟩ b).setCell ⟨g, 2, none⟩ c).setCell ⟨g, 3, none⟩ d).setCell ⟨g, 4, none⟩ e).setCell ⟨g, 5, none⟩ f
theorem six_below {w0 w : World} {B g : Nat} (h : Below B w0 w) (hg : B ≤ g) (a b c d e f : Value) : Below B w0 (six w g a b c d e f) :=
  (((((h.setCell hg a).setCell hg b).setCell hg c).setCell hg d).setCell hg e).setCell hg f
theorem six_blk {w : World} {g : Nat} {a0 b0 c0 d0 e0 f0 : Value} {t : TypeId} (h : Blk g #[a0, b0, c0, d0, e0, f0] t w) (a b c d e f : Value) : Blk g #[a, b, c, d, e, f] t (six w g a b c d e f) :=
  (((((Blk.set h 0 a).set 1 b).set 2 c).set 3 d).set 4 e).set 5 f
set_option maxHeartbeats 2000000 in
theorem q9_find_no (w : World) (gt gm : Nat) (T : TT) (F : Nat → Prop) (i : Int) (key : List Int) (B : Option Addr) (n d : Nat) (h : RepU w gt gm T F) (hn : key.length = n) (hnd : n ≤ d) (hm : tMay T i key = false) :
    Calls Tryz.prog 97 #[.pointer (some ⟨gt, 0, none⟩), .int .i64 i, .slice B n d] w (Gives (.tuple #[kZ, .int .i64 1]) w) := by
  have HA := Lib.hid fun u (b : Below w.heap.size w u) => q9_has u gt gm T F i (h.after b)
  obtain ⟨vl, L, rfl, h, -⟩ := h
  rw [show kZ = .agg #[.bool false, .int .i64 0, .int .i64 0, .int .i64 0, .map none, .int .i64 0] from rfl]
  rw [trM_len] at HA
  unfold tMay at hm
  rw [trM_len] at hm
  have B0 := Lib.hid (below_alloc (Below.refl w.heap.size w) (.cells #[.bool false, .int .i64 0, .int .i64 0, .int .i64 0, .map none, .int .i64 0] 118))
  have Z0 := Lib.hid (Blk.new w #[.bool false, .int .i64 0, .int .i64 0, .int .i64 0, .map none, .int .i64 0] 118 rfl)
  by_cases h1 : (decide (0 ≤ i) && decide (i < L.length)) = true
  · rw [h1] at hm HA
    rw [Bool.true_and] at hm
    simp only [Bool.and_eq_true, decide_eq_true_eq] at h1
    obtain ⟨k, rfl⟩ : ∃ k : Nat, i = k := ⟨i.toNat, by omega⟩
    rw [Int.toNat_natCast, trM_at, hn] at hm
    obtain ⟨gl, c, hvl, k1, k2, hg, -, e1, -⟩ := h.at_ (k := k) (by omega)
    obtain ⟨c0, c1⟩ := h.cells
    rw [hvl] at c1
    clear h hvl
    unfold maxLen at k2
    generalize (trAt L k).m.d.key = q at *
    have hq : ((n : Int) != q) = true := by simp only [bne, hm]; rfl
    have KK := Lib.hid (And.intro c1 e1)
    clear c0 c1 e1
    go_enter Tryz.func97, Tryz.ntmps97
    go_wp2_with fail
    refine (HA.out _ B0.out).mono ?_
    rintro e w1 ⟨rfl, b1⟩
    have V := Lib.hid (below_next' B0.out b1)
    have c1 := cell_on KK.out.1 V.out
    have e1 := cell_on KK.out.2 V.out
    have ZZ := Lib.hid (Z0.out.after b1)
    obtain ⟨⟨z0, z1, z2, z3, z4, z5⟩, y0, y1, y2, y3, y4, y5⟩ := Blk.six ZZ.out
    clear b1
    generalize hgr : w.heap.size = ρ at *
    go_wp2_with fail
    have R := six_blk ZZ.out (.bool false) (.int .i64 0) (.int .i64 0) (.int .i64 0) (.map none) (.int .i64 0)
    have RB := six_below V.out (Nat.le_refl _) (.bool false) (.int .i64 0) (.int .i64 0) (.int .i64 0) (.map none) (.int .i64 0)
    obtain ⟨⟨r0, r1, r2, r3, r4, r5⟩, -⟩ := Blk.six R
    unfold six at r0 r1 r2 r3 r4 r5 RB
    exact bodyPost_ret (v := .tuple #[.agg #[.bool false, .int .i64 0, .int .i64 0, .int .i64 0, .map none, .int .i64 0], .int .i64 1]) (by simp [results, Tryz.results97, go_sem, r0, r1, r2, r3, r4, r5]) rfl ⟨rfl, by rw [hgr]; exact RB⟩
  · rw [Bool.not_eq_true] at h1
    rw [h1] at HA
    clear h hm h1
    go_enter Tryz.func97, Tryz.ntmps97
    go_wp2_with fail
    refine (HA.out _ B0.out).mono ?_
    rintro e w1 ⟨rfl, b1⟩
    have V := Lib.hid (below_next' B0.out b1)
    have ZZ := Lib.hid (Z0.out.after b1)
    obtain ⟨⟨z0, z1, z2, z3, z4, z5⟩, y0, y1, y2, y3, y4, y5⟩ := Blk.six ZZ.out
    clear b1
    generalize hgr : w.heap.size = ρ at *
    go_wp2_with fail
    have R := six_blk ZZ.out (.bool false) (.int .i64 0) (.int .i64 0) (.int .i64 0) (.map none) (.int .i64 0)
    have RB := six_below V.out (Nat.le_refl _) (.bool false) (.int .i64 0) (.int .i64 0) (.int .i64 0) (.map none) (.int .i64 0)
    obtain ⟨⟨r0, r1, r2, r3, r4, r5⟩, -⟩ := Blk.six R
    unfold six at r0 r1 r2 r3 r4 r5 RB
    exact bodyPost_ret (v := .tuple #[.agg #[.bool false, .int .i64 0, .int .i64 0, .int .i64 0, .map none, .int .i64 0], .int .i64 1]) (by simp [results, Tryz.results97, go_sem, r0, r1, r2, r3, r4, r5]) rfl ⟨rfl, by rw [hgr]; exact RB⟩

set_option maxHeartbeats 2000000 in
theorem q9_find_yes (w : World) (gt gm : Nat) (vl : Value) (L : List TR) (F : Nat → Prop) (k : Nat) (key : List Int) (B : Option Addr) (n d : Nat) (hU : RepU w gt gm (trM L) F) (h : RepV w gt gm vl L F) (hk : k < L.length) (hn : key.length = n) (hnd : n ≤ d) (hm : (n : Int) = (trAt L k).m.d.key) :
    Calls Tryz.prog 97 #[.pointer (some ⟨gt, 0, none⟩), .int .i64 (k : Int), .slice B n d] w (Gives (.tuple #[kV (trAt L k), .int .i64 0]) w) := by
  have HA := Lib.hid fun u (b : Below w.heap.size w u) => q9_has u gt gm _ F (k : Int) (hU.after b)
  rw [trM_len, decide_eq_true (by omega : (0 : Int) ≤ (k : Int)), decide_eq_true (by omega : (k : Int) < (L.length : Int)), Bool.and_self] at HA
  have B0 := Lib.hid (below_alloc (Below.refl w.heap.size w) (.cells #[.bool false, .int .i64 0, .int .i64 0, .int .i64 0, .map none, .int .i64 0] 118))
  have Z0 := Lib.hid (Blk.new w #[.bool false, .int .i64 0, .int .i64 0, .int .i64 0, .map none, .int .i64 0] 118 rfl)
  obtain ⟨gl, c, hvl, k1, k2, hg, e0, e1, e2, e3, e4, e5⟩ := h.at_ (k := k) (by omega)
  obtain ⟨c0, c1⟩ := h.cells
  rw [hvl] at c1
  obtain ⟨mb, hmb⟩ : ∃ mb, (trAt L k).v = .map mb := by
    rcases h.own k hk with ⟨h, _⟩ | ⟨b, h, _⟩
    · exact ⟨_, h⟩
    · exact ⟨_, h⟩
  unfold kV
  rw [hmb] at e4 ⊢
  clear h hvl hU hmb
  unfold maxLen at k2
  generalize (trAt L k).m.d.key = q at *
  generalize (trAt L k).m.d.hash = qh at *
  generalize (trAt L k).m.d.val = qv at *
  generalize (trAt L k).m.d.max = qm at *
  generalize (trAt L k).m.made = qd at *
  have hq : ((n : Int) != q) = false := by rw [hm]; simp
  have k0 : (0 : Int) ≤ k := by omega
  have k3 : (k : Int) < L.length := by omega
  clear hm
  have KK := Lib.hid (And.intro c1 (And.intro e0 (And.intro e1 (And.intro e2 (And.intro e3 (And.intro e4 e5))))))
  clear c0 c1 e1 e0 e2 e3 e4 e5
  go_enter Tryz.func97, Tryz.ntmps97
  go_wp2_with fail
  refine (HA.out _ B0.out).mono ?_
  rintro e w1 ⟨rfl, b1⟩
  have V := Lib.hid (below_next' B0.out b1)
  have c1 := cell_on KK.out.1 V.out
  have e0 := cell_on KK.out.2.1 V.out
  have e1 := cell_on KK.out.2.2.1 V.out
  have e2 := cell_on KK.out.2.2.2.1 V.out
  have e3 := cell_on KK.out.2.2.2.2.1 V.out
  have e4 := cell_on KK.out.2.2.2.2.2.1 V.out
  have e5 := cell_on KK.out.2.2.2.2.2.2 V.out
  have ZZ := Lib.hid (Z0.out.after b1)
  obtain ⟨⟨z0, z1, z2, z3, z4, z5⟩, y0, y1, y2, y3, y4, y5⟩ := Blk.six ZZ.out
  clear b1
  generalize hgr : w.heap.size = ρ at *
  go_wp2_with fail
  have R := six_blk ZZ.out (.bool qh) (.int .i64 q) (.int .i64 qv) (.int .i64 qm) (.map mb) (.int .i64 qd)
  have RB := six_below V.out (Nat.le_refl _) (.bool qh) (.int .i64 q) (.int .i64 qv) (.int .i64 qm) (.map mb) (.int .i64 qd)
  obtain ⟨⟨r0, r1, r2, r3, r4, r5⟩, -⟩ := Blk.six R
  unfold six at r0 r1 r2 r3 r4 r5 RB
  exact bodyPost_ret (v := .tuple #[.agg #[.bool qh, .int .i64 q, .int .i64 qv, .int .i64 qm, .map mb, .int .i64 qd], .int .i64 0]) (by simp [results, Tryz.results97, go_sem, r0, r1, r2, r3, r4, r5]) rfl ⟨rfl, by rw [hgr]; exact RB⟩

end Go.Proofs.YtfniahmfoigceaaGreat
