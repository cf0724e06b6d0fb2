/-
  A map whose elements are any values: what it holds, said key by key; looked at, stored into, struck from. No program is named here.
  Conditions: none.
-/
import Derived.Test.YtempkpfcjonaaaaGives
import Derived.Maps.OwnSet
namespace Go.Proofs.Ytempkpfcjonaaaa
open Go Go.RowKit
open Go.Maps (Keyed)
set_option linter.unusedVariables false
set_option linter.unusedSimpArgs false

/-- An element reads as itself. -/
def rawElem (v : Value) : Option (DataW Value × List MemPlace) := some (.held v, [])
open Classical in
/-- What a map holds behind a store, or a strike, at a key. -/
noncomputable def putM (m : Lit → Option Value) (kl : Lit) (v : Option Value) : Lit → Option Value := fun x => if x = kl then v else m x
theorem putM_same (m : Lit → Option Value) (kl : Lit) (v : Option Value) : putM m kl v kl = v := by unfold putM; rw [if_pos rfl]
theorem putM_other {m : Lit → Option Value} {kl x : Lit} (h : x ≠ kl) (v : Option Value) : putM m kl v x = m x := by unfold putM; rw [if_neg h]
/-- Block b is a map of at most n entries that holds what m says. -/
def MapIs (P : Program) (k : TypeId) (w : World) (b n : Nat) (m : Lit → Option Value) : Prop :=
  ∃ D, w.ownsMap P k rawElem b n D ∧ ∀ kl, WideAt.IsKeyLit kl → Maps.has D kl = (m kl).isSome ∧ ∀ z, D.atKey kl z = (m kl).elim z .held
theorem mapIs_made (w : World) (P : Program) (k : TypeId) : MapIs P k (w.alloc (.map #[] 0)) w.heap.size 0 (fun _ => none) :=
  ⟨_, World.ownsMap_made w P k rawElem, fun kl _ => ⟨rfl, fun z => rfl⟩⟩
section
variable {P : Program} {k : TypeId} {w w' : World} {b n : Nat} {m m' : Lit → Option Value}
theorem MapIs.lt (h : MapIs P k w b n m) : b < w.heap.size := by
  obtain ⟨D, h, _⟩ := h
  exact h.lt
theorem MapIs.same (h : MapIs P k w b n m) (hs : w'.heap[b]? = w.heap[b]?) : MapIs P k w' b n m := by
  obtain ⟨D, ⟨es, clock, hb, r⟩, hm⟩ := h
  exact ⟨D, ⟨es, clock, hs.trans hb, r⟩, hm⟩
theorem MapIs.mono (h : MapIs P k w b n m) {n' : Nat} (hn : n ≤ n') : MapIs P k w b n' m := by
  obtain ⟨D, h, hm⟩ := h
  exact ⟨D, h.mono hn, hm⟩
theorem MapIs.eq (h : MapIs P k w b n m) (e : ∀ kl, WideAt.IsKeyLit kl → m' kl = m kl) : MapIs P k w b n m' := by
  obtain ⟨D, h, hm⟩ := h
  exact ⟨D, h, fun kl hk => by rw [e kl hk]; exact hm kl hk⟩
/-- 'v, ok := m[k]'. -/
theorem MapIs.look {t e : TypeId} (h : MapIs P k w b n m) (K : Keyed P k) (ht : P.underlying t = some (.map k e)) {z : Value} (hz : (zeroValue e).run P w = .ok z w) {key : Value} {kl : Lit} (hkey : keyOf P k key = some kl) :
    (Instr.lookup t (.map (some b)) key true).run P w = .ok (.tuple #[(m kl).getD z, .bool (m kl).isSome]) w := by
  obtain ⟨D, h, hm⟩ := h
  obtain ⟨v, ps, hr, hv⟩ := h.look_ok K ht hz (zd := .held z) (zp := []) rfl hkey
  obtain ⟨h1, h2⟩ := hm kl (K.key hkey)
  rw [hr, h1]
  simp only [rawElem, Option.some.injEq, Prod.mk.injEq] at hv
  have h3 := hv.1.trans (h2 _)
  cases hk : m kl with
  | none => rw [hk] at h3; simp only [Option.elim_none, DataW.held.injEq] at h3; rw [h3]; rfl
  | some u => rw [hk] at h3; simp only [Option.elim_some, DataW.held.injEq] at h3; rw [h3]; rfl
/-- 'm[k]'. -/
theorem MapIs.look1 {t e : TypeId} (h : MapIs P k w b n m) (K : Keyed P k) (ht : P.underlying t = some (.map k e)) {z : Value} (hz : (zeroValue e).run P w = .ok z w) {key : Value} {kl : Lit} (hkey : keyOf P k key = some kl) :
    (Instr.lookup t (.map (some b)) key false).run P w = .ok ((m kl).getD z) w := by
  obtain ⟨D, h, hm⟩ := h
  obtain ⟨v, ps, hr, hv⟩ := h.lookup K ht hz (zd := .held z) (zp := []) rfl hkey
  obtain ⟨h1, h2⟩ := hm kl (K.key hkey)
  rw [hr]
  simp only [rawElem, Option.some.injEq, Prod.mk.injEq] at hv
  have h3 := hv.1.trans (h2 _)
  cases hk : m kl with
  | none => rw [hk] at h3; simp only [Option.elim_none, DataW.held.injEq] at h3; rw [h3]; rfl
  | some u => rw [hk] at h3; simp only [Option.elim_some, DataW.held.injEq] at h3; rw [h3]; rfl
theorem MapIs.put {t e : TypeId} (h : MapIs P k w b n m) (K : Keyed P k) (ht : P.underlying t = some (.map k e)) (hn : n < maxLen) {key : Value} {kl : Lit} (hkey : keyOf P k key = some kl) (v : Value) :
    ∃ w', (Instr.mapUpdate t (.map (some b)) key v).run P w = .ok () w' ∧ MapIs P k w' b (n + 1) (putM m kl (some v)) ∧ w.grownBy w' (some b) := by
  obtain ⟨D, h, hm⟩ := h
  have hM := h.isMap
  obtain ⟨w', hr, h', hg⟩ := h.update K ht hn (val := v) (d := .held v) (ps := []) hkey rfl
  refine ⟨w', hr, ⟨_, h', fun x hx => ?_⟩, hg⟩
  by_cases e1 : x = kl
  · subst e1
    rw [putM_same]
    exact ⟨by rw [Maps.has_put_same hM hx]; rfl, fun z => by rw [Maps.atKey_put_same hM hx]; rfl⟩
  · rw [putM_other e1]
    obtain ⟨h1, h2⟩ := hm x hx
    exact ⟨by rw [Maps.has_put_other e1]; exact h1, fun z => by rw [Maps.atKey_put_other e1]; exact h2 z⟩
theorem MapIs.drop {t e : TypeId} (h : MapIs P k w b n m) (K : Keyed P k) (ht : P.underlying t = some (.map k e)) {key : Value} {kl : Lit} (hkey : keyOf P k key = some kl) (ty : TypeId) :
    ∃ w', (Builtin.delete_ #[t, k] ty #[.map (some b), key]).run P w = .ok (.tuple #[]) w' ∧ MapIs P k w' b n (putM m kl none) ∧ w.grownBy w' (some b) := by
  obtain ⟨D, h, hm⟩ := h
  obtain ⟨w', hr, h', hg⟩ := h.drop K ht hkey ty
  refine ⟨w', hr, ⟨_, h', fun x hx => ?_⟩, hg.grown⟩
  by_cases e1 : x = kl
  · subst e1
    rw [putM_same]
    exact ⟨by rw [Maps.has_del_same]; rfl, fun z => by rw [Maps.atKey_del_same]; rfl⟩
  · rw [putM_other e1]
    obtain ⟨h1, h2⟩ := hm x hx
    exact ⟨by rw [Maps.has_del_other e1]; exact h1, fun z => by rw [Maps.atKey_del_other e1]; exact h2 z⟩
end
/-- What a map keyed by whole numbers holds. -/
def intM (f : Int → Option Value) : Lit → Option Value
  | .int .i64 i => f i
  | _ => none
theorem intM_at (f : Int → Option Value) (i : Int) : intM f (.int .i64 i) = f i := rfl
theorem intM_put (f : Int → Option Value) (i : Int) (v : Option Value) (kl : Lit) : putM (intM f) (.int .i64 i) v kl = intM (fun x => if x = i then v else f x) kl := by
  by_cases h : kl = .int .i64 i
  · subst h; rw [putM_same, intM_at, if_pos rfl]
  · rw [putM_other h]
    unfold intM
    split
    · rename_i x
      show f x = if x = i then v else f x
      rw [if_neg (fun e => h (by rw [e]))]
    · rfl
theorem keyI {P : Program} {k : TypeId} (hk : P.underlying k = some (.int .i64)) (i : Int) (h : -9223372036854775808 ≤ i ∧ i ≤ 9223372036854775807) : keyOf P k (.int .i64 i) = some (.int .i64 i) :=
  Maps.keyOf_int_mk hk (by simp [Lit.wf, show IntKind.i64.min = -9223372036854775808 from rfl, show IntKind.i64.max = 9223372036854775807 from rfl]; omega)

end Go.Proofs.Ytempkpfcjonaaaa
