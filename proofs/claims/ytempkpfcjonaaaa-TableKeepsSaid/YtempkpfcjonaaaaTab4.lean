/-
  Layer 9, the program's Drop; how many slots a map has.
  Conditions: the numbers fit their kinds; few maps.
-/
import Derived.Test.YtempkpfcjonaaaaTab3
namespace Go.Proofs.Ytempkpfcjonaaaa
open Go.RowKit
set_option maxRecDepth 100000
set_option linter.unusedVariables false
set_option linter.unusedSimpArgs false

theorem nodup_le {α : Type} {l m : List α} (h : l.Nodup) (hs : ∀ x ∈ l, x ∈ m) : l.length ≤ m.length := by
  classical
  induction l generalizing m with
  | nil => simp
  | cons a l ih =>
    obtain ⟨h1, h2⟩ := List.nodup_cons.1 h
    have ha : a ∈ m := hs a (List.mem_cons_self ..)
    have := ih (m := m.erase a) h2 (fun x hx => (List.mem_erase_of_ne (fun e => h1 (by rw [← e]; exact hx))).2 (hs x (List.mem_cons_of_mem _ hx)))
    rw [List.length_erase_of_mem ha] at this
    have : 0 < m.length := List.length_pos_of_mem ha
    simp only [List.length_cons]
    omega
theorem kLit_inj {a b : List Int} (ha : OkB a) (hb : OkB b) (h : kLit a = kLit b) : a = b := by
  unfold kLit at h
  simp only [Lit.string.injEq] at h
  have := eq_str ha hb
  rw [h] at this
  simpa using this
/-- Keys as they may be. -/
structure KOk (K : List TK) : Prop where
  byt : ∀ x ∈ K, OkB x.k
  rise : K.Pairwise fun x y => kLt x.k y.k = true
theorem TM.ok.kok {m : TM} (h : m.ok) : KOk m.L := ⟨fun x hx => (h.keys x hx).1, h.rise⟩
theorem kok_nodup {K : List TK} (h : KOk K) : (K.map fun x => (strOfNums x.k).toList).Nodup := by
  obtain ⟨h1, h2⟩ := h
  induction K with
  | nil => exact List.nodup_nil
  | cons x K ih =>
    obtain ⟨h3, h4⟩ := List.pairwise_cons.1 h2
    rw [List.map_cons, List.nodup_cons]
    refine ⟨fun hm => ?_, ih (fun y hy => h1 y (List.mem_cons_of_mem _ hy)) h4⟩
    obtain ⟨y, hy, e⟩ := List.mem_map.1 hm
    have := eq_str (h1 y (List.mem_cons_of_mem _ hy)) (h1 x (List.mem_cons_self ..))
    rw [e] at this
    simp only [beq_self_eq_true] at this
    have e2 : y.k = x.k := by simpa using this
    exact kLt_ne (h3 y hy) e2.symm
theorem str_some {K : List TK} {kl : Lit} (h : (strM K kl).isSome = true) : ∃ x ∈ K, kl = kLit x.k := by
  unfold strM at h
  split at h
  · rename_i s
    cases hf : K.find? (fun x => (strOfNums x.k).toList == s) with
    | none => rw [hf] at h; cases h
    | some x =>
      refine ⟨x, List.mem_of_find?_eq_some hf, ?_⟩
      have := List.find?_some hf
      simp only [beq_iff_eq] at this
      unfold kLit
      rw [this]
  · cases h
theorem str_mem {K : List TK} {x : TK} (hx : x ∈ K) : (strM K (kLit x.k)).isSome = true := by
  unfold strM kLit
  simp only [Option.isSome_map, List.find?_isSome]
  exact ⟨x, hx, by simp⟩
theorem mapIs_size {w : World} {b n : Nat} {K : List TK} (h : MapIs Try.prog 9 w b n (strM K)) (hK : KOk K) :
    ∃ D, w.ownsMap Try.prog 9 rawElem b n D ∧ Maps.size D = K.length ∧ ∀ kl, WideAt.IsKeyLit kl → Maps.has D kl = (strM K kl).isSome ∧ ∀ z, D.atKey kl z = (strM K kl).elim z .held := by
  obtain ⟨D, ho, hm⟩ := h
  refine ⟨D, ho, ?_, hm⟩
  obtain ⟨es, rfl, hp, hk⟩ := ho.entries strK
  show es.length = K.length
  have hn : (es.map (·.1)).Nodup := by
    rw [List.nodup_iff_pairwise_ne, List.pairwise_map]
    exact hp
  have hkn : (K.map fun x => kLit x.k).Nodup := by
    have h1 := kok_nodup hK
    rw [List.nodup_iff_pairwise_ne, List.pairwise_map] at h1 ⊢
    exact h1.imp fun hne e => hne (by unfold kLit at e; simpa using e)
  have i1 : ∀ x ∈ es.map (·.1), x ∈ K.map fun x => kLit x.k := fun x hx => by
    obtain ⟨p, hp, rfl⟩ := List.mem_map.1 hx
    have h1 : Maps.has (DataW.map es) p.1 = true := List.any_eq_true.2 ⟨p, hp, WideAt.sameKey_self (hk p hp)⟩
    rw [(hm p.1 (hk p hp)).1] at h1
    obtain ⟨y, hy, e⟩ := str_some h1
    exact List.mem_map.2 ⟨y, hy, e.symm⟩
  have i2 : ∀ x ∈ K.map (fun x => kLit x.k), x ∈ es.map (·.1) := fun x hx => by
    obtain ⟨y, hy, rfl⟩ := List.mem_map.1 hx
    have h1 := str_mem hy
    rw [← (hm (kLit y.k) trivial).1] at h1
    obtain ⟨p, hp, e⟩ := List.any_eq_true.1 h1
    exact List.mem_map.2 ⟨p, hp, WideAt.sameKey_eq e⟩
  have l1 := nodup_le hn i1
  have l2 := nodup_le hkn i2
  simp only [List.length_map] at l1 l2
  omega
theorem mapIs_tight {w : World} {b n : Nat} {K : List TK} (h : MapIs Try.prog 9 w b n (strM K)) (hK : KOk K) : MapIs Try.prog 9 w b K.length (strM K) := by
  obtain ⟨D, ho, hs, hm⟩ := mapIs_size h hK
  refine ⟨D, ?_, hm⟩
  obtain ⟨es, clock, hb, F, hn, rfl⟩ := ho
  refine ⟨es, clock, hb, F, ?_, rfl⟩
  have : Maps.size (DataW.map ((es.toList.map (WideElems.rg Try.prog 9 rawElem)).foldr DataW.insert [])) = es.size := by simp [Maps.size, length_sorted]
  omega
/-- 'len(slots)'. -/
theorem SlotR.len {w : World} {mb : Option Nat} {K : List TK} (h : SlotR w (.map mb) K) (hK : KOk K) (ty : TypeId) : (Builtin.len_ #[76] ty #[.map mb]).run Try.prog w = .ok (.int .i64 (K.length : Int)) w := by
  rcases h with ⟨e, rfl⟩ | ⟨b, e, h⟩
  · cases e
    exact Maps.len_nil Try.underlying76 ty
  · cases e
    obtain ⟨D, ho, hs, -⟩ := mapIs_size h hK
    rw [ho.len Try.underlying76 ty, hs]

/-- The program's maps have become other ones, and one answer is told. -/
def MapQ (gt gm : Nat) (F : Nat → Prop) (T : TT) (v : Value) (w : World) (e : Ending) (w' : World) : Prop :=
  e = .returned v ∧ ∃ F', RepU w' gt gm T F' ∧ Turn F w w' ∧ ∀ x, F' x → F x ∨ w.heap.size ≤ x
theorem mapQ_same {w w' : World} {gt gm : Nat} {T : TT} {F : Nat → Prop} {v : Value} (h : RepU w gt gm T F) (b : Below w.heap.size w w') : MapQ gt gm F T v w (.returned v) w' :=
  ⟨rfl, F, h.after b, Turn.of_below b, fun x hx => .inl hx⟩
/-- A key has been let go of. -/
theorem drop_done {w u u' : World} {gt gm k b : Nat} {vl : Value} {L : List TR} {F : Nat → Prop} {key : List Int} (hF : TFull (trM L)) (h : RepV w gt gm vl L F) (hv : ∀ j, j < L.length → (trAt L j).v ≠ .map none) (hk : k < L.length) (hmb : (trAt L k).v = .map (some b)) (hob : OkB key) (hh : (trAt L k).m.d.hash = true)
    (V : Below w.heap.size w u) (hm : MapIs Try.prog 9 u' b (trAt L k).m.L.length (putM (strM (trAt L k).m.L) (kLit key) none)) (hg : u.grownBy u' (some b)) :
    MapQ gt gm F ((trM L).set k ⟨(trAt L k).m.d, leftK (trAt L k).m.L key, (trAt L k).m.made⟩) (.tuple #[.int .u64 0, .int .i64 0]) w (.returned (.tuple #[.int .u64 0, .int .i64 0])) u' := by
  have hok := hF.ok k (by rw [trM_len]; exact hk)
  rw [trM_at] at hok
  have hFb : F b := h.footK (k := k) (by rw [hmb]; rfl)
  have hL : trC (L.set k ⟨⟨(trAt L k).m.d, leftK (trAt L k).m.L key, (trAt L k).m.made⟩, (trAt L k).v⟩) = trC L := by
    rw [trC_set4 hk]
    apply List.ext_getElem?
    intro j
    rw [List.getElem?_set]
    by_cases e : k * 6 + 4 = j
    · rw [if_pos e, if_pos (by rw [trC_len]; omega), ← e, trC_at L k 4 hk (by omega)]; rfl
    · rw [if_neg e]
  have hsame : ∀ x, F x → x ≠ b → u'.heap[x]? = w.heap[x]? := fun x hx hne => (hg.block x (Nat.lt_of_lt_of_le (h.lt hx) V.size) (by simpa using hne)).trans (V.block x (h.lt hx))
  have hbr : vl.ownBlock ≠ some b := fun e => by
    have := h.apart 1 (k + 2) b e (by rw [qBlk_k, hmb]; rfl)
    omega
  obtain ⟨F', hR, hF'⟩ := h.put (r := ⟨⟨(trAt L k).m.d, leftK (trAt L k).m.L key, (trAt L k).m.made⟩, (trAt L k).v⟩) (u := u') hk
    (fun x hx _ hne => hsame x hx (fun e => hne (by rw [hmb, e]; rfl)))
    (by rw [hL]; exact own_same h.row (fun x hx => hsame x (h.foot1 hx) (fun e => hbr (by rw [← e]; exact hx))))
    (by
      show SlotR u' (trAt L k).v (leftK (trAt L k).m.L key)
      rw [hmb]
      exact .inr ⟨b, rfl, mapIs_tight (hm.eq fun kl _ => str_drop (fun x hx => (hok.keys x hx).1) hob kl) (leftK_ok hok key).kok⟩)
    (.inl rfl)
  refine ⟨rfl, F', ⟨vl, _, ?_, hR, ⟨fun j hj => ?_, fun j hj hj2 => ?_⟩, fun j hj => ?_⟩, (Turn.of_below V).trans (G := fun x => x = b) ⟨hg.os, hg.tape, hg.output, hg.size, fun x hx hne => hg.block x hx (by simpa using hne)⟩ (fun x hx => .inl (by rw [hx]; exact hFb)), hF'⟩
  · unfold trM; rw [List.map_set]
  · rw [List.length_set, trM_len] at hj
    rw [mt_set (by rw [trM_len]; exact hk)]
    by_cases e : j = k
    · rw [if_pos e]; exact leftK_ok hok key
    · rw [if_neg e]; exact hF.ok j (by rw [trM_len]; exact hj)
  · rw [List.length_set, trM_len] at hj
    rw [mt_set (by rw [trM_len]; exact hk)] at hj2 ⊢
    by_cases e : j = k
    · rw [if_pos e] at hj2
      simp only at hj2
      rw [hh] at hj2
      cases hj2
    · rw [if_neg e] at hj2 ⊢; exact hF.full j (by rw [trM_len]; exact hj) hj2
  · rw [List.length_set] at hj
    rw [trAt_set hk]
    by_cases e : j = k
    · rw [if_pos e]; exact hv k hk
    · rw [if_neg e]; exact hv j hj

end Go.Proofs.Ytempkpfcjonaaaa
