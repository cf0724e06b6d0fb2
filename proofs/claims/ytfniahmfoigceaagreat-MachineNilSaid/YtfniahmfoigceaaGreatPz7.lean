/-
  Texts, one behind the other: MapRaw, Mem1.
  Conditions: those that each theorem states.
-/
import Derived.Maps.OwnSet
import Derived.Test.YtfniahmfoigceaaGreatPz1
import Derived.Test.YtfniahmfoigceaaGreatPz2

namespace Go.Proofs.YtfniahmfoigceaaGreat
open Go Go.RowKit
open Go.Maps (Keyed)
set_option linter.unusedVariables false
set_option linter.unusedSimpArgs false

/-- An element reads as itself. -/
def rawElem (v : Value) : Option (DataW Value × List MemPlace) := some (.held v, [])
open Classical in
/-- What a map holds behind a store, or a strike, at a key. -/
noncomputable def putM (m : Lit → Option Value) (kl : Lit) (v : Option Value) : Lit → Option Value := fun x => if x = kl then v else m x
theorem putM_same (m : Lit → Option Value) (kl : Lit) (v : Option Value) : putM m kl v kl = v := by unfold putM; rw [if_pos rfl]
theorem putM_other {m : Lit → Option Value} {kl x : Lit} (h : x ≠ kl) (v : Option Value) : putM m kl v x = m x := by unfold putM; rw [if_neg h]
/-- Block b is a map of at most n entries that holds what m says. -/
def MapIs (P : Program) (k : TypeId) (w : World) (b n : Nat) (m : Lit → Option Value) : Prop :=
  ∃ D, w.ownsMap P k rawElem b n D ∧ ∀ kl, WideAt.IsKeyLit kl → Maps.has D kl = (m kl).isSome ∧ ∀ z, D.atKey kl z = (m kl).elim z .held
theorem mapIs_made (w : World) (P : Program) (k : TypeId) : MapIs P k (w.alloc (.map #[] 0)) w.heap.size 0 (fun _ => none) :=
  ⟨_, World.ownsMap_made w P k rawElem, fun kl _ => ⟨rfl, fun z => rfl⟩⟩
section
variable {P : Program} {k : TypeId} {w w' : World} {b n : Nat} {m m' : Lit → Option Value}
theorem MapIs.lt (h : MapIs P k w b n m) : b < w.heap.size := by
  obtain ⟨D, h, _⟩ := h
  exact h.lt
theorem MapIs.same (h : MapIs P k w b n m) (hs : w'.heap[b]? = w.heap[b]?) : MapIs P k w' b n m := by
  obtain ⟨D, ⟨es, clock, hb, r⟩, hm⟩ := h
  exact ⟨D, ⟨es, clock, hs.trans hb, r⟩, hm⟩
theorem MapIs.mono (h : MapIs P k w b n m) {n' : Nat} (hn : n ≤ n') : MapIs P k w b n' m := by
  obtain ⟨D, h, hm⟩ := h
  exact ⟨D, h.mono hn, hm⟩
theorem MapIs.eq (h : MapIs P k w b n m) (e : ∀ kl, WideAt.IsKeyLit kl → m' kl = m kl) : MapIs P k w b n m' := by
  obtain ⟨D, h, hm⟩ := h
  exact ⟨D, h, fun kl hk => by rw [e kl hk]; exact hm kl hk⟩
/-- 'v, ok := m[k]'. -/
theorem MapIs.look {t e : TypeId} (h : MapIs P k w b n m) (K : Keyed P k) (ht : P.underlying t = some (.map k e)) {z : Value} (hz : (zeroValue e).run P w = .ok z w) {key : Value} {kl : Lit} (hkey : keyOf P k key = some kl) :
    (Instr.lookup t (.map (some b)) key true).run P w = .ok (.tuple #[(m kl).getD z, .bool (m kl).isSome]) w := by
  obtain ⟨D, h, hm⟩ := h
  obtain ⟨v, ps, hr, hv⟩ := h.look_ok K ht hz (zd := .held z) (zp := []) rfl hkey
  obtain ⟨h1, h2⟩ := hm kl (K.key hkey)
  rw [hr, h1]
  simp only [rawElem, Option.some.injEq, Prod.mk.injEq] at hv
  have h3 := hv.1.trans (h2 _)
  cases hk : m kl with
  | none => rw [hk] at h3; simp only [Option.elim_none, DataW.held.injEq] at h3; rw [h3]; rfl
  | some u => rw [hk] at h3; simp only [Option.elim_some, DataW.held.injEq] at h3; rw [h3]; rfl
theorem MapIs.put {t e : TypeId} (h : MapIs P k w b n m) (K : Keyed P k) (ht : P.underlying t = some (.map k e)) (hn : n < maxLen) {key : Value} {kl : Lit} (hkey : keyOf P k key = some kl) (v : Value) :
    ∃ w', (Instr.mapUpdate t (.map (some b)) key v).run P w = .ok () w' ∧ MapIs P k w' b (n + 1) (putM m kl (some v)) ∧ w.grownBy w' (some b) := by
  obtain ⟨D, h, hm⟩ := h
  have hM := h.isMap
  obtain ⟨w', hr, h', hg⟩ := h.update K ht hn (val := v) (d := .held v) (ps := []) hkey rfl
  refine ⟨w', hr, ⟨_, h', fun x hx => ?_⟩, hg⟩
  by_cases e1 : x = kl
  · subst e1
    rw [putM_same]
    exact ⟨by rw [Maps.has_put_same hM hx]; rfl, fun z => by rw [Maps.atKey_put_same hM hx]; rfl⟩
  · rw [putM_other e1]
    obtain ⟨h1, h2⟩ := hm x hx
    exact ⟨by rw [Maps.has_put_other e1]; exact h1, fun z => by rw [Maps.atKey_put_other e1]; exact h2 z⟩
theorem MapIs.drop {t e : TypeId} (h : MapIs P k w b n m) (K : Keyed P k) (ht : P.underlying t = some (.map k e)) {key : Value} {kl : Lit} (hkey : keyOf P k key = some kl) (ty : TypeId) :
    ∃ w', (Builtin.delete_ #[t, k] ty #[.map (some b), key]).run P w = .ok (.tuple #[]) w' ∧ MapIs P k w' b n (putM m kl none) ∧ w.grownBy w' (some b) := by
  obtain ⟨D, h, hm⟩ := h
  obtain ⟨w', hr, h', hg⟩ := h.drop K ht hkey ty
  refine ⟨w', hr, ⟨_, h', fun x hx => ?_⟩, hg.grown⟩
  by_cases e1 : x = kl
  · subst e1
    rw [putM_same]
    exact ⟨by rw [Maps.has_del_same]; rfl, fun z => by rw [Maps.atKey_del_same]; rfl⟩
  · rw [putM_other e1]
    obtain ⟨h1, h2⟩ := hm x hx
    exact ⟨by rw [Maps.has_del_other e1]; exact h1, fun z => by rw [Maps.atKey_del_other e1]; exact h2 z⟩
end
/-- What a map keyed by whole numbers holds. -/
def intM (f : Int → Option Value) : Lit → Option Value
  | .int .i64 i => f i
  | _ => none
theorem intM_at (f : Int → Option Value) (i : Int) : intM f (.int .i64 i) = f i := rfl
theorem intM_put (f : Int → Option Value) (i : Int) (v : Option Value) (kl : Lit) : putM (intM f) (.int .i64 i) v kl = intM (fun x => if x = i then v else f x) kl := by
  by_cases h : kl = .int .i64 i
  · subst h; rw [putM_same, intM_at, if_pos rfl]
  · rw [putM_other h]
    unfold intM
    split
    · rename_i x
      show f x = if x = i then v else f x
      rw [if_neg (fun e => h (by rw [e]))]
    · rfl
theorem keyI {P : Program} {k : TypeId} (hk : P.underlying k = some (.int .i64)) (i : Int) (h : -9223372036854775808 ≤ i ∧ i ≤ 9223372036854775807) : keyOf P k (.int .i64 i) = some (.int .i64 i) :=
  Maps.keyOf_int_mk hk (by simp [Lit.wf, show IntKind.i64.min = -9223372036854775808 from rfl, show IntKind.i64.max = 9223372036854775807 from rfl]; omega)

end Go.Proofs.YtfniahmfoigceaaGreat

namespace Go.Proofs.YtfniahmfoigceaaGreat
open Go Go.RowKit
open Go.Maps (Keyed)
set_option maxRecDepth 100000
set_option linter.unusedVariables false
set_option linter.unusedSimpArgs false

theorem pIx_ids {M M' : PM} (h : M.map (·.id) = M'.map (·.id)) (i : Int) : pIx M i = pIx M' i := by
  induction M generalizing M' with
  | nil =>
    cases M' with
    | nil => rfl
    | cons _ _ => cases h
  | cons a M ih =>
    cases M' with
    | nil => cases h
    | cons b M' =>
      simp only [List.map_cons, List.cons.injEq] at h
      simp only [pIx, h.1, ih h.2]
theorem pIx_app (M : PM) (a : PA) (i : Int) : pIx (M ++ [a]) i = match pIx M i with | some k => some k | none => if a.id = i then some M.length else none := by
  induction M with
  | nil => simp [pIx]
  | cons b M ih =>
    simp only [List.cons_append, pIx, ih]
    by_cases hb : b.id = i
    · rw [if_pos hb, if_pos hb]
    · rw [if_neg hb, if_neg hb]
      cases pIx M i with
      | some k => rfl
      | none =>
        simp only [Option.map_none, List.length_cons]
        split <;> rfl
/-- An area as the map holds it. -/
def rgV (r : AR) : Value := .agg #[r.vb, r.vk, .bool r.a.fx]
def rgZ : Value := .agg #[.slice none 0 0, .slice none 0 0, .bool false]
def rgF (L : List AR) (i : Int) : Option Value := (pIx (arM L) i).map fun k => rgV (arAt L k)
/-- The map's block, as a slice's. -/
def mvO : Value → Value
  | .map (some b) => .slice (some ⟨b, 0, none⟩) 0 0
  | _ => .slice none 0 0
def MapR (w : World) (mv : Value) (L : List AR) : Prop := (mv = .map none ∧ L = []) ∨ ∃ b, mv = .map (some b) ∧ MapIs Tryz.prog 3 w b L.length (intM (rgF L))
theorem MapR.same {w w' : World} {mv : Value} {L : List AR} (h : MapR w mv L) (hs : ∀ x, (mvO mv).ownBlock = some x → w'.heap[x]? = w.heap[x]?) : MapR w' mv L := by
  rcases h with h | ⟨b, rfl, h⟩
  · exact .inl h
  · exact .inr ⟨b, rfl, h.same (hs b rfl)⟩
theorem MapR.lt {w : World} {mv : Value} {L : List AR} (h : MapR w mv L) {x : Nat} (hx : (mvO mv).ownBlock = some x) : x < w.heap.size := by
  rcases h with ⟨rfl, _⟩ | ⟨b, rfl, h⟩
  · cases hx
  · cases hx; exact h.lt
theorem MapR.put {w : World} {mv : Value} {L : List AR} (h : MapR w mv L) {k : Nat} (hk : k < L.length) (b : List Int) (bl : List Bool) : MapR w mv (L.set k (arPut (arAt L k) b bl)) := by
  rcases h with ⟨_, rfl⟩ | ⟨c, rfl, h⟩
  · simp at hk
  · refine .inr ⟨c, rfl, ?_⟩
    rw [List.length_set]
    refine h.eq fun kl _ => ?_
    unfold intM
    split
    · rename_i i _
      unfold rgF
      rw [pIx_ids (M' := arM L) (by
        rw [arM_put, List.map_set]
        apply List.ext_getElem?
        intro j
        rw [List.getElem?_set]
        by_cases e : k = j
        · subst e
          rw [if_pos rfl, if_pos (by simp [arM, hk]), List.getElem?_map, pAt_get (by rw [arM_len]; exact hk), arM_at]
          rfl
        · rw [if_neg e])]
      cases hx : pIx (arM L) i with
      | none => rfl
      | some j =>
        simp only [Option.map_some, Option.some.injEq]
        rw [arAt_set hk]
        by_cases e : j = k
        · subst e; rw [if_pos rfl]; rfl
        · rw [if_neg e]
    · rfl
theorem rgF_app (L : List AR) (r : AR) (h : pIx (arM L) r.a.id = none) (i : Int) : rgF (L ++ [r]) i = if i = r.a.id then some (rgV r) else rgF L i := by
  unfold rgF
  have e : arM (L ++ [r]) = arM L ++ [r.a] := by simp [arM]
  rw [e, pIx_app]
  by_cases hi : i = r.a.id
  · subst hi
    rw [h, if_pos rfl, if_pos rfl]
    simp only [Option.map_some, Option.some.injEq]
    rw [arAt_app, arM_len, if_neg (by omega), if_pos rfl]
  · rw [if_neg hi]
    cases hx : pIx (arM L) i with
    | none => simp only; rw [if_neg (fun e => hi e.symm)]; rfl
    | some k =>
      have hk := (pIx_some hx).1
      rw [arM_len] at hk
      simp only [Option.map_some, Option.some.injEq]
      rw [arAt_app, if_pos hk]
theorem mapR_add {w : World} {b n : Nat} {L : List AR} {r : AR} (h : MapIs Tryz.prog 3 w b n (putM (intM (rgF L)) (.int .i64 r.a.id) (some (rgV r)))) (hn : n ≤ L.length + 1) (hx : pIx (arM L) r.a.id = none) : MapR w (.map (some b)) (L ++ [r]) := by
  refine .inr ⟨b, rfl, ?_⟩
  rw [List.length_append, List.length_singleton]
  refine (h.mono hn).eq fun kl _ => ?_
  rw [intM_put]
  unfold intM
  split
  · exact rgF_app L r hx _
  · rfl
theorem MapR.is {w : World} {b : Nat} {L : List AR} (h : MapR w (.map (some b)) L) : MapIs Tryz.prog 3 w b L.length (intM (rgF L)) := by
  rcases h with ⟨h, _⟩ | ⟨c, h, h'⟩
  · cases h
  · cases h; exact h'
theorem intK : Keyed Tryz.prog 3 := Maps.int_keyed Tryz.underlying3
/-- 'r, ok := m[i]'. -/
theorem MapR.look {w : World} {mv : Value} {L : List AR} (h : MapR w mv L) (i : Int) (hi : -9223372036854775808 ≤ i ∧ i ≤ 9223372036854775807) :
    (Instr.lookup 155 mv (.int .i64 i) true).run Tryz.prog w = .ok (.tuple #[(rgF L i).getD rgZ, .bool (rgF L i).isSome]) w := by
  have hz : (zeroValue 159).run Tryz.prog w = .ok rgZ w := rfl
  rcases h with ⟨rfl, rfl⟩ | ⟨b, rfl, h⟩
  · exact Maps.look_nil true intK Tryz.underlying155 hz (keyI Tryz.underlying3 i hi)
  · exact h.look intK Tryz.underlying155 hz (keyI Tryz.underlying3 i hi)
structure RepQ (w : World) (g : Nat) (vl : Value) (L : List AR) (F : Nat → Prop) : Prop where
  blk : Blk g #[vl] 157 w
  map : MapR w vl L
  own : ∀ k, k < L.length → AROwn w (arAt L k)
  apart : ∀ p q x, arBlk g (mvO vl) L p = some x → arBlk g (mvO vl) L q = some x → p = q
  foot : ∀ x, F x ↔ ∃ p, arBlk g (mvO vl) L p = some x
  ok : PMok (arM L)
/-- A block that holds memory. -/
def RepP (w : World) (g : Nat) (M : PM) (F : Nat → Prop) : Prop := ∃ vl L, M = arM L ∧ RepQ w g vl L F
section
variable {w w' : World} {g : Nat} {vl : Value} {L : List AR} {F : Nat → Prop} {M : PM}
theorem RepQ.foot0 (h : RepQ w g vl L F) : F g := (h.foot g).mpr ⟨0, rfl⟩
theorem RepQ.foot1 (h : RepQ w g vl L F) {x : Nat} (hx : (mvO vl).ownBlock = some x) : F x := (h.foot x).mpr ⟨1, hx⟩
theorem RepQ.footB (h : RepQ w g vl L F) {x k : Nat} (hx : (arAt L k).vb.ownBlock = some x) : F x := (h.foot x).mpr ⟨2 * k + 2, (arBlk_b g (mvO vl) L k).trans hx⟩
theorem RepQ.footK (h : RepQ w g vl L F) {x k : Nat} (hx : (arAt L k).vk.ownBlock = some x) : F x := (h.foot x).mpr ⟨2 * k + 3, (arBlk_k g (mvO vl) L k).trans hx⟩
theorem RepQ.lt (h : RepQ w g vl L F) {x : Nat} (hx : F x) : x < w.heap.size := by
  obtain ⟨p, hp⟩ := (h.foot x).mp hx
  rcases arBlk_cases hp with ⟨_, rfl⟩ | ⟨_, hx⟩ | ⟨k, hk, ⟨_, hx⟩ | ⟨_, hx⟩⟩
  · exact Blk.lt h.blk
  · exact h.map.lt hx
  · exact own_lt (h.own k hk).1 hx
  · exact own_lt (h.own k hk).2 hx
theorem RepQ.keep (h : RepQ w g vl L F) (hs : ∀ x, F x → w'.heap[x]? = w.heap[x]?) : RepQ w' g vl L F :=
  ⟨Blk.same h.blk (hs g h.foot0), h.map.same (fun k hk => hs k (h.foot1 hk)), fun k hk => ⟨own_same (h.own k hk).1 (fun x hx => hs x (h.footB hx)), own_same (h.own k hk).2 (fun x hx => hs x (h.footK hx))⟩, h.apart, h.foot, h.ok⟩
theorem RepP.lt (h : RepP w g M F) {x : Nat} (hx : F x) : x < w.heap.size := by
  obtain ⟨vl, L, _, h⟩ := h
  exact h.lt hx
theorem RepP.turn {G : Nat → Prop} (h : RepP w g M F) (k : Turn G w w') (hG : ∀ x, F x → ¬ G x) : RepP w' g M F := by
  obtain ⟨vl, L, e, h⟩ := h
  exact ⟨vl, L, e, h.keep fun x hx => k.block x (h.lt hx) (hG x hx)⟩
theorem RepP.after (h : RepP w g M F) (k : Below w.heap.size w w') : RepP w' g M F := h.turn (Turn.of_below (F := fun _ => False) k) (fun _ _ x => x)
theorem RepP.ok (h : RepP w g M F) : PMok M := by
  obtain ⟨vl, L, rfl, h⟩ := h
  exact h.ok
theorem RepQ.cell (h : RepQ w g vl L F) : w.cell? ⟨g, 0, none⟩ = some vl := Blk.cell h.blk 0
/-- One byte is stored. -/
theorem RepQ.setB (h : RepQ w g vl L F) {k j gb n cb : Nat} (hk : k < L.length) (hj : j < (arAt L k).a.b.length) (hvb : (arAt L k).vb = .slice (some ⟨gb, 0, none⟩) n cb) {v : Int} (hv : 0 ≤ v ∧ v ≤ 255) :
    RepQ (w.setCell ⟨gb, j, none⟩ (.int .u8 v)) g vl (L.set k (arPut (arAt L k) ((arAt L k).a.b.set j v) (arAt L k).a.bl)) F ∧ F gb := by
  have hob : (arAt L k).vb.ownBlock = some gb := by rw [hvb]; rfl
  have hF : F gb := h.footB hob
  have hp : arBlk g (mvO vl) L (2 * k + 2) = some gb := (arBlk_b g (mvO vl) L k).trans hob
  have hne : ∀ x p, arBlk g (mvO vl) L p = some x → p ≠ 2 * k + 2 → (w.setCell ⟨gb, j, none⟩ (.int .u8 v)).heap[x]? = w.heap[x]? := fun x p hx hpn =>
    Below.heap_setCell _ _ _ _ (fun e => by
      have e' : x = gb := e
      subst e'
      exact hpn (h.apart _ _ _ hx hp))
  obtain ⟨h1, h2, h3, h4⟩ := h.ok k (by rw [arM_len]; exact hk)
  rw [arM_at] at h1 h2 h3 h4
  refine ⟨⟨Blk.same h.blk (hne g 0 rfl (by omega)), ?_, ?_, fun p q x => ?_, fun x => ?_, ?_⟩, hF⟩
  · exact (h.map.put hk _ _).same (fun x hx => hne x 1 hx (by omega))
  · intro i hi
    rw [List.length_set] at hi
    rw [arAt_set hk]
    by_cases hik : i = k
    · subst hik
      rw [if_pos rfl]
      refine ⟨?_, own_same (h.own i hi).2 (fun x hx => hne x (2 * i + 3) ((arBlk_k g (mvO vl) L i).trans hx) (by omega))⟩
      have ho := (h.own i hi).1
      have e : (arPut (arAt L i) ((arAt L i).a.b.set j v) (arAt L i).a.bl).a.b.length = (arAt L i).a.b.length := by simp [arPut]
      have e2 : byC (arPut (arAt L i) ((arAt L i).a.b.set j v) (arAt L i).a.bl).a.b = (byC (arAt L i).a.b).set j (.int .u8 v) := (byC_set _ _ _).symm
      rw [e, e2]
      show World.ownsRow _ _ _ _ (arAt L i).vb _ _
      rw [hvb] at ho ⊢
      obtain ⟨A, c, hA, _, _⟩ := own_slice ho
      have hn : n = (arAt L i).a.b.length := by injection hA
      rw [← hn] at ho ⊢
      exact (ho.stored j (.int .u8 v)).1
    · rw [if_neg hik]
      exact ⟨own_same (h.own i hi).1 (fun x hx => hne x (2 * i + 2) ((arBlk_b g (mvO vl) L i).trans hx) (by omega)), own_same (h.own i hi).2 (fun x hx => hne x (2 * i + 3) ((arBlk_k g (mvO vl) L i).trans hx) (by omega))⟩
  · rw [arBlk_put hk, arBlk_put hk]; exact h.apart p q x
  · rw [h.foot]; simp only [arBlk_put hk]
  · rw [arM_put]
    intro i hi
    rw [List.length_set] at hi
    rw [pAt_set (by rw [arM_len]; exact hk)]
    split
    · exact ⟨okB_set h1 hj hv, by simp only [List.length_set]; exact h2, by simp only [List.length_set]; exact h3, h4⟩
    · exact h.ok i hi
/-- One byte is blank no more. -/
theorem RepQ.setK (h : RepQ w g vl L F) {k j gk n ck : Nat} (hk : k < L.length) (hvk : (arAt L k).vk = .slice (some ⟨gk, 0, none⟩) n ck) (v : Bool) :
    RepQ (w.setCell ⟨gk, j, none⟩ (.bool v)) g vl (L.set k (arPut (arAt L k) (arAt L k).a.b ((arAt L k).a.bl.set j v))) F ∧ F gk := by
  have hob : (arAt L k).vk.ownBlock = some gk := by rw [hvk]; rfl
  have hF : F gk := h.footK hob
  have hp : arBlk g (mvO vl) L (2 * k + 3) = some gk := (arBlk_k g (mvO vl) L k).trans hob
  have hne : ∀ x p, arBlk g (mvO vl) L p = some x → p ≠ 2 * k + 3 → (w.setCell ⟨gk, j, none⟩ (.bool v)).heap[x]? = w.heap[x]? := fun x p hx hpn =>
    Below.heap_setCell _ _ _ _ (fun e => by
      have e' : x = gk := e
      subst e'
      exact hpn (h.apart _ _ _ hx hp))
  obtain ⟨h1, h2, h3, h4⟩ := h.ok k (by rw [arM_len]; exact hk)
  rw [arM_at] at h1 h2 h3 h4
  refine ⟨⟨Blk.same h.blk (hne g 0 rfl (by omega)), ?_, ?_, fun p q x => ?_, fun x => ?_, ?_⟩, hF⟩
  · exact (h.map.put hk _ _).same (fun x hx => hne x 1 hx (by omega))
  · intro i hi
    rw [List.length_set] at hi
    rw [arAt_set hk]
    by_cases hik : i = k
    · subst hik
      rw [if_pos rfl]
      refine ⟨own_same (h.own i hi).1 (fun x hx => hne x (2 * i + 2) ((arBlk_b g (mvO vl) L i).trans hx) (by omega)), ?_⟩
      have ho := (h.own i hi).2
      have e : (arPut (arAt L i) (arAt L i).a.b ((arAt L i).a.bl.set j v)).a.bl.length = (arAt L i).a.bl.length := by simp [arPut]
      have e2 : boC (arPut (arAt L i) (arAt L i).a.b ((arAt L i).a.bl.set j v)).a.bl = (boC (arAt L i).a.bl).set j (.bool v) := (boC_set _ _ _).symm
      rw [e, e2]
      show World.ownsRow _ _ _ _ (arAt L i).vk _ _
      rw [hvk] at ho ⊢
      obtain ⟨A, c, hA, _, _⟩ := own_slice ho
      have hn : n = (arAt L i).a.bl.length := by injection hA
      rw [← hn] at ho ⊢
      exact (ho.stored j (.bool v)).1
    · rw [if_neg hik]
      exact ⟨own_same (h.own i hi).1 (fun x hx => hne x (2 * i + 2) ((arBlk_b g (mvO vl) L i).trans hx) (by omega)), own_same (h.own i hi).2 (fun x hx => hne x (2 * i + 3) ((arBlk_k g (mvO vl) L i).trans hx) (by omega))⟩
  · rw [arBlk_put hk, arBlk_put hk]; exact h.apart p q x
  · rw [h.foot]; simp only [arBlk_put hk]
  · rw [arM_put]
    intro i hi
    rw [List.length_set] at hi
    rw [pAt_set (by rw [arM_len]; exact hk)]
    split
    · exact ⟨h1, by simp only [List.length_set]; exact h2, h3, h4⟩
    · exact h.ok i hi
/-- A byte is stored, and is blank no more. -/
theorem RepQ.step {k j gb gk nb cb nk ck : Nat} {b : List Int} {bl : List Bool} (h : RepQ w g vl (L.set k (arPut (arAt L k) b bl)) F) (hk : k < L.length) (hj : j < b.length)
    (hvb : (arAt L k).vb = .slice (some ⟨gb, 0, none⟩) nb cb) (hvk : (arAt L k).vk = .slice (some ⟨gk, 0, none⟩) nk ck) {v : Int} (hv : 0 ≤ v ∧ v ≤ 255) :
    RepQ ((w.setCell ⟨gb, j, none⟩ (.int .u8 v)).setCell ⟨gk, j, none⟩ (.bool false)) g vl (L.set k (arPut (arAt L k) (b.set j v) (bl.set j false))) F ∧ F gb ∧ F gk ∧ g ≠ gb ∧ gk ≠ gb := by
  have hkl : k < (L.set k (arPut (arAt L k) b bl)).length := by rw [List.length_set]; exact hk
  have e : arAt (L.set k (arPut (arAt L k) b bl)) k = arPut (arAt L k) b bl := by rw [arAt_set hk, if_pos rfl]
  have pb : arBlk g (mvO vl) (L.set k (arPut (arAt L k) b bl)) (2 * k + 2) = some gb := by rw [arBlk_put hk, arBlk_b, hvb]; rfl
  have pk : arBlk g (mvO vl) (L.set k (arPut (arAt L k) b bl)) (2 * k + 3) = some gk := by rw [arBlk_put hk, arBlk_k, hvk]; rfl
  obtain ⟨h1, f1⟩ := h.setB (k := k) (j := j) (gb := gb) (n := nb) (cb := cb) hkl (by rw [e]; exact hj) (by rw [e]; exact hvb) hv
  rw [arPut_twice hk, e] at h1
  have e2 : arAt (L.set k (arPut (arAt L k) (b.set j v) bl)) k = arPut (arAt L k) (b.set j v) bl := by rw [arAt_set hk, if_pos rfl]
  have h1' : RepQ (w.setCell ⟨gb, j, none⟩ (.int .u8 v)) g vl (L.set k (arPut (arAt L k) (b.set j v) bl)) F := h1
  obtain ⟨h2, f2⟩ := h1'.setK (k := k) (j := j) (gk := gk) (n := nk) (ck := ck) (by rw [List.length_set]; exact hk) (by rw [e2]; exact hvk) false
  rw [arPut_twice hk, e2] at h2
  refine ⟨h2, f1, f2, fun e => ?_, fun e => ?_⟩
  · have := h.apart 0 (2 * k + 2) g rfl (by rw [e]; exact pb)
    omega
  · have := h.apart (2 * k + 3) (2 * k + 2) gk pk (by rw [e]; exact pb)
    omega
end

theorem RepQ.add {w u : World} {g : Nat} {vl vl' : Value} {L : List AR} {F : Nat → Prop} {r : AR} (h : RepQ w g vl L F)
    (hs : ∀ x, F x → x ≠ g → (mvO vl).ownBlock ≠ some x → u.heap[x]? = w.heap[x]?)
    (hb : Blk g #[vl'] 157 u) (hr : MapR u vl' (L ++ [r])) (ho : AROwn u r)
    (h1 : ∀ x, r.vb.ownBlock = some x → w.heap.size ≤ x) (h2 : ∀ x, r.vk.ownBlock = some x → w.heap.size ≤ x) (h3 : ∀ x, r.vb.ownBlock = some x → r.vk.ownBlock ≠ some x)
    (h4 : (mvO vl').ownBlock = (mvO vl).ownBlock ∨ ∃ y, (mvO vl').ownBlock = some y ∧ w.heap.size ≤ y ∧ r.vb.ownBlock ≠ some y ∧ r.vk.ownBlock ≠ some y) (hok : r.a.ok) :
    ∃ F', RepQ u g vl' (L ++ [r]) F' ∧ ∀ x, F' x → F x ∨ w.heap.size ≤ x := by
  have old : ∀ p x, p ≠ 1 → arBlk g (mvO vl) L p = some x → p < 2 * L.length + 2 := fun p x hp hx => by
    rcases arBlk_cases hx with ⟨h1, _⟩ | ⟨h1, _⟩ | ⟨k, hk, ⟨h1, _⟩ | ⟨h1, _⟩⟩ <;> omega
  have hF : ∀ p x, arBlk g (mvO vl) L p = some x → x < w.heap.size := fun p x hx => h.lt ((h.foot x).mpr ⟨p, hx⟩)
  have h4' : ∀ x, (mvO vl').ownBlock = some x → ((mvO vl).ownBlock = some x) ∨ (w.heap.size ≤ x ∧ r.vb.ownBlock ≠ some x ∧ r.vk.ownBlock ≠ some x) := fun x hx => by
    rcases h4 with h4 | ⟨y, hy, h5⟩
    · exact .inl (by rw [← h4]; exact hx)
    · rw [hy] at hx; cases hx; exact .inr h5
  have f1 : ∀ x, (mvO vl).ownBlock = some x → x < w.heap.size := fun x hx => hF 1 x hx
  refine ⟨fun x => ∃ p, arBlk g (mvO vl') (L ++ [r]) p = some x, ⟨hb, ?_, ?_, ?_, fun x => Iff.rfl, ?_⟩, ?_⟩
  · exact hr
  · intro k hk
    rw [arAt_app]
    by_cases hl : k < L.length
    · rw [if_pos hl]
      have apart : ∀ x p, arBlk g (mvO vl) L p = some x → p ≠ 0 → p ≠ 1 → u.heap[x]? = w.heap[x]? := fun x p hx p0 p1 =>
        hs x ((h.foot x).mpr ⟨p, hx⟩) (fun e => p0 (h.apart p 0 x hx (by rw [e]; rfl))) (fun e => p1 (h.apart p 1 x hx e))
      exact ⟨own_same (h.own k hl).1 (fun x hx => apart x (2 * k + 2) ((arBlk_b g (mvO vl) L k).trans hx) (by omega) (by omega)), own_same (h.own k hl).2 (fun x hx => apart x (2 * k + 3) ((arBlk_k g (mvO vl) L k).trans hx) (by omega) (by omega))⟩
    · have e : k = L.length := by simp at hk; omega
      rw [if_neg hl, if_pos e]
      exact ho
  · intro p q x hp hq
    rcases arBlk_app (vl := mvO vl) hp with ⟨a1, a2⟩ | ⟨a1, a2⟩ | ⟨a1, a2⟩ | ⟨a1, a2⟩ <;> rcases arBlk_app (vl := mvO vl) hq with ⟨b1, b2⟩ | ⟨b1, b2⟩ | ⟨b1, b2⟩ | ⟨b1, b2⟩
    · exact h.apart p q x a2 b2
    · have := hF p x a2
      rcases h4' x b2 with c | ⟨c, _⟩
      · exact absurd (h.apart p 1 x a2 c) a1
      · omega
    · have := hF p x a2; have := h1 x b2; omega
    · have := hF p x a2; have := h2 x b2; omega
    · have := hF q x b2
      rcases h4' x a2 with c | ⟨c, _⟩
      · exact absurd (h.apart q 1 x b2 c) b1
      · omega
    · omega
    · rcases h4' x a2 with c | ⟨_, c, _⟩
      · have := f1 x c; have := h1 x b2; omega
      · exact absurd b2 c
    · rcases h4' x a2 with c | ⟨_, _, c⟩
      · have := f1 x c; have := h2 x b2; omega
      · exact absurd b2 c
    · have := hF q x b2; have := h1 x a2; omega
    · rcases h4' x b2 with c | ⟨_, c, _⟩
      · have := f1 x c; have := h1 x a2; omega
      · exact absurd a2 c
    · omega
    · exact absurd b2 (h3 x a2)
    · have := hF q x b2; have := h2 x a2; omega
    · rcases h4' x b2 with c | ⟨_, _, c⟩
      · have := f1 x c; have := h2 x a2; omega
      · exact absurd a2 c
    · exact absurd a2 (h3 x b2)
    · omega
  · rw [arM_app]
    intro k hk
    rw [pAt_app]
    by_cases hl : k < (arM L).length
    · rw [if_pos hl]; exact h.ok k hl
    · rw [if_neg hl, if_pos (by simp at hk hl ⊢; omega)]
      exact hok
  · rintro x ⟨p, hp⟩
    rcases arBlk_app (vl := mvO vl) hp with ⟨a1, a2⟩ | ⟨a1, a2⟩ | ⟨a1, a2⟩ | ⟨a1, a2⟩
    · exact .inl ((h.foot x).mpr ⟨p, a2⟩)
    · rcases h4' x a2 with c | ⟨c, _⟩
      · exact .inl ((h.foot x).mpr ⟨1, c⟩)
      · exact .inr c
    · exact .inr (h1 x a2)
    · exact .inr (h2 x a2)



end Go.Proofs.YtfniahmfoigceaaGreat
