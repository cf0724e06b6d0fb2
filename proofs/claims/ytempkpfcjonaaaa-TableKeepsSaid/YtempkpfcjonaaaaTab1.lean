/-
  Layer 9, the program's maps, as they lie in memory: a block with a row of maps, each of which owns a map of slots by keys.
  Conditions: none.
-/
import Derived.Test.YtempkpfcjonaaaaRef09d
import Derived.Test.YtempkpfcjonaaaaRef09e
import Derived.Test.YtempkpfcjonaaaaMem1
import Derived.StringKeys
namespace Go.Proofs.Ytempkpfcjonaaaa
open Go Go.RowKit
open Go.Maps (Keyed)
set_option maxRecDepth 100000
set_option linter.unusedVariables false
set_option linter.unusedSimpArgs false

/-- Slots by keys, as a map of the language holds them. -/
def strM (K : List TK) : Lit → Option Value
  | .string s => (K.find? fun x => (strOfNums x.k).toList == s).map fun x => .int .i64 (x.s : Int)
  | _ => none
def kLit (key : List Int) : Lit := .string (strOfNums key).toList
def sV : Option Nat → Option Value
  | none => none
  | some n => some (.int .i64 (n : Int))
theorem find_cong {α : Type} {p q : α → Bool} : ∀ {l : List α}, (∀ x ∈ l, p x = q x) → l.find? p = l.find? q
  | [], _ => rfl
  | a :: r, h => by
    rw [List.find?_cons, List.find?_cons, h a (List.mem_cons_self ..), find_cong (l := r) fun x hx => h x (List.mem_cons_of_mem _ hx)]
theorem str_find {K : List TK} (hK : ∀ x ∈ K, OkB x.k) {key : List Int} (hk : OkB key) : strM K (kLit key) = sV (tFind K key) := by
  unfold strM kLit tFind
  have e : K.find? (fun x => (strOfNums x.k).toList == (strOfNums key).toList) = K.find? (fun x => x.k == key) :=
    find_cong fun x hx => eq_str (hK x hx) hk
  simp only
  rw [e]
  cases K.find? (fun x => x.k == key) <;> rfl
theorem find_skip {α : Type} {p : α → Bool} {A B : List α} {x : α} (h : p x = false) : (A ++ x :: B).find? p = (A ++ B).find? p := by
  rw [List.find?_append, List.find?_append, List.find?_cons, h]
theorem str_put {K : List TK} (hK : ∀ x ∈ K, OkB x.k) {x : TK} (hx : OkB x.k) (hn : tFind K x.k = none) (kl : Lit) : strM (tIns K x) kl = putM (strM K) (kLit x.k) (some (.int .i64 (x.s : Int))) kl := by
  by_cases h : kl = kLit x.k
  · subst h
    rw [putM_same]
    show ((tIns K x).find? fun y => (strOfNums y.k).toList == (strOfNums x.k).toList).map _ = _
    have hs : tIns K x = K.takeWhile (fun y => kLt y.k x.k) ++ x :: K.dropWhile (fun y => kLt y.k x.k) := rfl
    rw [hs, List.find?_append, List.find?_eq_none.2 (fun y hy => ?_), Option.none_or, List.find?_cons]
    · simp
    · have hy' : y ∈ K := (List.takeWhile_sublist _).subset hy
      unfold tFind at hn
      rw [Option.map_eq_none_iff, List.find?_eq_none] at hn
      rw [eq_str (hK y hy') hx]
      exact hn y hy'
  · rw [putM_other h]
    unfold strM
    split
    · rename_i s
      congr 1
      have hs : tIns K x = K.takeWhile (fun y => kLt y.k x.k) ++ x :: K.dropWhile (fun y => kLt y.k x.k) := rfl
      rw [hs, find_skip, List.takeWhile_append_dropWhile]
      unfold kLit at h
      rw [Bool.eq_false_iff]
      intro e
      rw [beq_iff_eq] at e
      exact h (by rw [e])
    · rfl
theorem str_drop {K : List TK} (hK : ∀ x ∈ K, OkB x.k) {key : List Int} (hk : OkB key) (kl : Lit) : strM (leftK K key) kl = putM (strM K) (kLit key) none kl := by
  by_cases h : kl = kLit key
  · subst h
    unfold leftK
    rw [putM_same, str_find (fun x hx => hK x (List.mem_filter.1 hx).1) hk]
    have e : tFind (K.filter fun x => !(x.k == key)) key = none := by
      unfold tFind
      rw [List.find?_eq_none.2]
      · rfl
      · intro x hx
        have := (List.mem_filter.1 hx).2
        simpa using this
    rw [e]
    rfl
  · rw [putM_other h]
    unfold strM
    split
    · rename_i s
      congr 1
      unfold leftK
      rw [List.find?_filter]
      refine find_cong fun x hx => ?_
      by_cases e : x.k = key
      · have : ((strOfNums x.k).toList == s) = false := by
          rw [Bool.eq_false_iff]
          intro e2
          rw [beq_iff_eq] at e2
          exact h (by unfold kLit; rw [← e, e2])
        simp [e]
        rw [← e]
        simpa using this
      · have e2 : (!(x.k == key)) = true := by simp [e]
        rw [e2]
        simp only [true_and]
        cases ((strOfNums x.k).toList == s) <;> rfl
    · rfl
/-- A map's slots, where they lie. -/
def SlotR (w : World) (mv : Value) (K : List TK) : Prop := (mv = .map none ∧ K = []) ∨ ∃ b, mv = .map (some b) ∧ MapIs Try.prog 9 w b K.length (strM K)
theorem SlotR.same {w w' : World} {mv : Value} {K : List TK} (h : SlotR w mv K) (hs : ∀ x, (mvO mv).ownBlock = some x → w'.heap[x]? = w.heap[x]?) : SlotR w' mv K := by
  rcases h with h | ⟨b, rfl, h⟩
  · exact .inl h
  · exact .inr ⟨b, rfl, h.same (hs b rfl)⟩
theorem SlotR.lt {w : World} {mv : Value} {K : List TK} (h : SlotR w mv K) {x : Nat} (hx : (mvO mv).ownBlock = some x) : x < w.heap.size := by
  rcases h with ⟨rfl, _⟩ | ⟨b, rfl, h⟩
  · cases hx
  · cases hx; exact h.lt
theorem SlotR.is {w : World} {b : Nat} {K : List TK} (h : SlotR w (.map (some b)) K) : MapIs Try.prog 9 w b K.length (strM K) := by
  rcases h with ⟨h, _⟩ | ⟨c, h, h'⟩
  · cases h
  · cases h; exact h'
theorem strK : Keyed Try.prog 9 := Maps.string_keyed Try.underlying9
theorem str_size (key : List Int) : (strOfNums key).size = key.length := by
  have := congrArg List.length (strOfNums_data key)
  simpa using this
theorem keyOf_key {key : List Int} (hl : key.length ≤ maxLen) : keyOf Try.prog 9 (.string (strOfNums key)) = some (kLit key) := by
  rw [WideMaps.keyOf_string_mk Try.underlying9 (by rw [str_size]; exact hl)]
  unfold kLit
  rw [Lib.toList_data]
/-- 'slot, there := slots[key]'. -/
theorem SlotR.look {w : World} {mv : Value} {K : List TK} (h : SlotR w mv K) (hK : ∀ x ∈ K, OkB x.k) {key : List Int} (hk : OkB key) (hl : key.length ≤ maxLen) :
    (Instr.lookup 76 mv (.string (strOfNums key)) true).run Try.prog w = .ok (.tuple #[.int .i64 (((tFind K key).getD 0 : Nat) : Int), .bool (tFind K key).isSome]) w := by
  have hz : (zeroValue 3).run Try.prog w = .ok (.int .i64 0) w := rfl
  rcases h with ⟨rfl, rfl⟩ | ⟨b, rfl, h⟩
  · exact Maps.look_nil true strK Try.underlying76 hz (keyOf_key hl)
  · rw [h.look strK Try.underlying76 hz (keyOf_key hl), str_find hK hk]
    unfold sV
    cases tFind K key <;> rfl
/-- The program's maps, by place. -/
def qBlk (gt : Nat) (vl : Value) (L : List TR) (p : Nat) : Option Nat := if p = 0 then some gt else if p = 1 then vl.ownBlock else (mvO (trAt L (p - 2)).v).ownBlock
theorem qBlk_k (gt : Nat) (vl : Value) (L : List TR) (k : Nat) : qBlk gt vl L (k + 2) = (mvO (trAt L k).v).ownBlock := by
  unfold qBlk
  rw [if_neg (by omega), if_neg (by omega), show k + 2 - 2 = k by omega]
theorem qBlk_cases {gt : Nat} {vl : Value} {L : List TR} {p x : Nat} (h : qBlk gt vl L p = some x) :
    (p = 0 ∧ x = gt) ∨ (p = 1 ∧ vl.ownBlock = some x) ∨ ∃ k, k < L.length ∧ p = k + 2 ∧ (mvO (trAt L k).v).ownBlock = some x := by
  unfold qBlk at h
  by_cases h0 : p = 0
  · rw [if_pos h0] at h; cases h; exact .inl ⟨h0, rfl⟩
  rw [if_neg h0] at h
  by_cases h1 : p = 1
  · rw [if_pos h1] at h; exact .inr (.inl ⟨h1, h⟩)
  rw [if_neg h1] at h
  have hk : p - 2 < L.length := by
    rcases Nat.lt_or_ge (p - 2) L.length with c | c
    · exact c
    · rw [trAt_out c] at h
      cases h
  exact .inr (.inr ⟨p - 2, hk, by omega, h⟩)
structure RepV (w : World) (gt gm : Nat) (vl : Value) (L : List TR) (F : Nat → Prop) : Prop where
  blk : Blk gt #[.pointer (some ⟨gm, 0, none⟩), vl] 75 w
  row : w.ownsRow 0 78 6 vl L.length (trC L)
  own : ∀ k, k < L.length → SlotR w (trAt L k).v (trAt L k).m.L
  apart : ∀ p q x, qBlk gt vl L p = some x → qBlk gt vl L q = some x → p = q
  foot : ∀ x, F x ↔ ∃ p, qBlk gt vl L p = some x
/-- A block that holds the program's maps. -/
structure TFull (T : TT) : Prop where
  ok : TOk T
  full : ∀ k, k < T.length → (mt T k).d.hash = false → ((mt T k).L.length : Int) = (mt T k).d.max
def RepU (w : World) (gt gm : Nat) (T : TT) (F : Nat → Prop) : Prop := ∃ vl L, T = trM L ∧ RepV w gt gm vl L F ∧ TFull T ∧ ∀ k, k < L.length → (trAt L k).v ≠ .map none
section
variable {w w' u : World} {gt gm : Nat} {vl : Value} {L : List TR} {F : Nat → Prop} {T : TT}
theorem RepV.foot0 (h : RepV w gt gm vl L F) : F gt := (h.foot gt).mpr ⟨0, rfl⟩
theorem RepV.foot1 (h : RepV w gt gm vl L F) {x : Nat} (hx : vl.ownBlock = some x) : F x := (h.foot x).mpr ⟨1, hx⟩
theorem RepV.footK (h : RepV w gt gm vl L F) {x k : Nat} (hx : (mvO (trAt L k).v).ownBlock = some x) : F x := (h.foot x).mpr ⟨k + 2, (qBlk_k gt vl L k).trans hx⟩
theorem RepV.lt (h : RepV w gt gm vl L F) {x : Nat} (hx : F x) : x < w.heap.size := by
  obtain ⟨p, hp⟩ := (h.foot x).mp hx
  rcases qBlk_cases hp with ⟨_, rfl⟩ | ⟨_, hx⟩ | ⟨k, hk, _, hx⟩
  · exact Blk.lt h.blk
  · exact own_lt h.row hx
  · exact (h.own k hk).lt hx
theorem RepV.keep (h : RepV w gt gm vl L F) (hs : ∀ x, F x → w'.heap[x]? = w.heap[x]?) : RepV w' gt gm vl L F :=
  ⟨Blk.same h.blk (hs gt h.foot0), own_same h.row (fun k hk => hs k (h.foot1 hk)), fun k hk => (h.own k hk).same (fun x hx => hs x (h.footK hx)), h.apart, h.foot⟩
theorem RepV.after (h : RepV w gt gm vl L F) (b : Below w.heap.size w u) : RepV u gt gm vl L F := h.keep fun x hx => b.block x (h.lt hx)
theorem RepV.turn {G : Nat → Prop} (h : RepV w gt gm vl L F) (k : Turn G w w') (hG : ∀ x, F x → ¬ G x) : RepV w' gt gm vl L F := h.keep fun x hx => k.block x (h.lt hx) (hG x hx)
theorem RepU.lt (h : RepU w gt gm T F) {x : Nat} (hx : F x) : x < w.heap.size := by
  obtain ⟨vl, L, _, h, _⟩ := h
  exact h.lt hx
theorem RepU.turn {G : Nat → Prop} (h : RepU w gt gm T F) (k : Turn G w w') (hG : ∀ x, F x → ¬ G x) : RepU w' gt gm T F := by
  obtain ⟨vl, L, e, h, r⟩ := h
  exact ⟨vl, L, e, h.turn k hG, r⟩
theorem RepU.after (h : RepU w gt gm T F) (k : Below w.heap.size w w') : RepU w' gt gm T F := h.turn (Turn.of_below (F := fun _ => False) k) (fun _ _ x => x)
theorem RepU.ok (h : RepU w gt gm T F) : TOk T := by
  obtain ⟨vl, L, rfl, _, h, _⟩ := h
  exact h.ok
theorem RepV.cells (h : RepV w gt gm vl L F) : w.cell? ⟨gt, 0, none⟩ = some (.pointer (some ⟨gm, 0, none⟩)) ∧ w.cell? ⟨gt, 1, none⟩ = some vl := ⟨Blk.cell h.blk 0, Blk.cell h.blk 1⟩
/-- A map in the row. -/
theorem RepV.at_ (h : RepV w gt gm vl L F) {k : Nat} (hk : k < L.length) : ∃ gl c, vl = .slice (some ⟨gl, 0, none⟩) L.length c ∧ L.length ≤ c ∧ c ≤ maxLen ∧ gl < w.heap.size ∧
    w.cell? ⟨gl, k * 6, none⟩ = some (.bool (trAt L k).m.d.hash) ∧ w.cell? ⟨gl, k * 6 + 1, none⟩ = some (.int .i64 (trAt L k).m.d.key) ∧ w.cell? ⟨gl, k * 6 + 2, none⟩ = some (.int .i64 (trAt L k).m.d.val) ∧ w.cell? ⟨gl, k * 6 + 3, none⟩ = some (.int .i64 (trAt L k).m.d.max) ∧
    w.cell? ⟨gl, k * 6 + 4, none⟩ = some (trAt L k).v ∧ w.cell? ⟨gl, k * 6 + 5, none⟩ = some (.int .i64 ((trAt L k).m.made : Int)) := by
  obtain ⟨A, c, rfl, k1, k2⟩ := own_slice h.row
  obtain ⟨gl, rfl, _, hg⟩ := own_addr h.row (by omega)
  have hc : ∀ r, r < 6 → w.cell? ⟨gl, k * 6 + r, none⟩ = (cT (trAt L k))[r]? := fun r hr => by
    rw [h.row.cellAt _ (by omega), trC_at L k r hk hr]
  exact ⟨gl, c, rfl, k1, k2, hg, hc 0 (by omega), hc 1 (by omega), hc 2 (by omega), hc 3 (by omega), hc 4 (by omega), hc 5 (by omega)⟩
/-- One map's content has become another one: its slots, in the same block or in a new one; the row too. -/
theorem RepV.put {k : Nat} {r : TR} (h : RepV w gt gm vl L F) (hk : k < L.length) (hs : ∀ x, F x → vl.ownBlock ≠ some x → (mvO (trAt L k).v).ownBlock ≠ some x → u.heap[x]? = w.heap[x]?) (hrow : u.ownsRow 0 78 6 vl L.length (trC (L.set k r))) (hown : SlotR u r.v r.m.L)
    (hnew : r.v = (trAt L k).v ∨ ∀ x, (mvO r.v).ownBlock = some x → w.heap.size ≤ x) : ∃ F', RepV u gt gm vl (L.set k r) F' ∧ ∀ x, F' x → F x ∨ w.heap.size ≤ x := by
  have hlen : (L.set k r).length = L.length := List.length_set
  have hF : ∀ p x, qBlk gt vl L p = some x → x < w.heap.size := fun p x hx => h.lt ((h.foot x).mpr ⟨p, hx⟩)
  have hb : ∀ p x, qBlk gt vl (L.set k r) p = some x → (qBlk gt vl L p = some x) ∨ (p = k + 2 ∧ w.heap.size ≤ x) := fun p x hx => by
    rcases qBlk_cases hx with ⟨h1, h2⟩ | ⟨h1, h2⟩ | ⟨j, hj, h1, h2⟩
    · exact .inl (by rw [h1, h2]; rfl)
    · exact .inl (by rw [h1]; exact h2)
    · rw [trAt_set hk] at h2
      by_cases e : j = k
      · rw [if_pos e] at h2
        rcases hnew with hn | hn
        · rw [hn] at h2; exact .inl (by rw [h1, qBlk_k, e]; exact h2)
        · exact .inr ⟨by omega, hn x h2⟩
      · rw [if_neg e] at h2; exact .inl (by rw [h1, qBlk_k]; exact h2)
  have gne : vl.ownBlock ≠ some gt := fun e => by have := h.apart 1 0 gt e rfl; omega
  have gnk : (mvO (trAt L k).v).ownBlock ≠ some gt := fun e => by have := h.apart (k + 2) 0 gt ((qBlk_k gt vl L k).trans e) rfl; omega
  refine ⟨fun x => ∃ p, qBlk gt vl (L.set k r) p = some x, ⟨Blk.same h.blk (hs gt h.foot0 gne gnk), by rw [hlen]; exact hrow, fun j hj => ?_, fun p q x hp hq => ?_, fun x => Iff.rfl⟩, ?_⟩
  · rw [hlen] at hj
    rw [trAt_set hk]
    by_cases e : j = k
    · rw [if_pos e]; exact hown
    · rw [if_neg e]
      refine (h.own j hj).same (fun x hx => hs x (h.footK hx) (fun e2 => ?_) (fun e2 => ?_))
      · have := h.apart 1 (j + 2) x e2 ((qBlk_k gt vl L j).trans hx)
        omega
      · have := h.apart (k + 2) (j + 2) x ((qBlk_k gt vl L k).trans e2) ((qBlk_k gt vl L j).trans hx)
        omega
  · rcases hb p x hp with a2 | ⟨a1, a2⟩ <;> rcases hb q x hq with b2 | ⟨b1, b2⟩
    · exact h.apart p q x a2 b2
    · have := hF p x a2; omega
    · have := hF q x b2; omega
    · omega
  · rintro x ⟨p, hp⟩
    rcases hb p x hp with a2 | ⟨_, a2⟩
    · exact .inl ((h.foot x).mpr ⟨p, a2⟩)
    · exact .inr a2
end

end Go.Proofs.Ytempkpfcjonaaaa
