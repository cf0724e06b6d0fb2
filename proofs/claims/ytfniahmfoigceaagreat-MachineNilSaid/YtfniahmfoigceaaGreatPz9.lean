/-
  Texts, one behind the other: Tab3, Tab4, Tab5, Mem3.
  Conditions: those that each theorem states.
-/
import Derived.Test.YtfniahmfoigceaaGreatPz8
import Derived.Test.YtfniahmfoigceaaGreatPz1

namespace Go.Proofs.YtfniahmfoigceaaGreat
open Go.RowKit
set_option maxRecDepth 100000
set_option linter.unusedVariables false
set_option linter.unusedSimpArgs false

set_option maxHeartbeats 2000000 in
theorem q9_Look_no (w : World) (gt gm : Nat) (T : TT) (F : Nat → Prop) (i : Int) (key : List Int) (B : Option Addr) (n d : Nat) (h : RepU w gt gm T F) (hn : key.length = n) (hnd : n ≤ d) (hm : tMay T i key = false) :
    Calls Tryz.prog 159 #[.pointer (some ⟨gt, 0, none⟩), .int .i64 i, .slice B n d] w (Gives (.tuple #[.int .u64 0, .int .i64 1]) w) := by
  have FI := Lib.hid (q9_find_no w gt gm T F i key B n d h hn hnd hm)
  rw [show kZ = .agg #[.bool false, .int .i64 0, .int .i64 0, .int .i64 0, .map none, .int .i64 0] from rfl] at FI
  clear h hm hn
  go_enter Tryz.func159, Tryz.ntmps159
  go_wp2_with fail
  refine (FI.out).mono ?_
  rintro e w1 ⟨rfl, b1⟩
  have V := Lib.hid b1
  clear b1
  go_wp2_with fail
  go_ret2
  exact ⟨rfl, below_alloc V.out _⟩

/-- What is looked up, and what a key is as a string, in whatever world has come. -/
structure SeeK (w : World) (mb : Option Nat) (K : List TK) (key : List Int) (B : Option Addr) (n d : Nat) : Prop where
  look : ∀ u, Below w.heap.size w u → (Instr.lookup 116 (.map mb) (.string (strOfNums key)) true).run Tryz.prog u = .ok (.tuple #[.int .i64 (((tFind K key).getD 0 : Nat) : Int), .bool (tFind K key).isSome]) u
  str : ∀ u, Below w.heap.size w u → (convert 23 9 (.slice B n d)).run Tryz.prog u = .ok (.string (strOfNums key)) u
theorem RepV.seeK {w : World} {gt gm : Nat} {vl : Value} {L : List TR} {F : Nat → Prop} (hU : TOk (trM L)) (h : RepV w gt gm vl L F) {k : Nat} (hk : k < L.length) {mb : Option Nat} (hv : (trAt L k).v = .map mb) {key : List Int} {B : Option Addr} {n d : Nat} (hb : BytS w B key) (hob : OkB key) (hn : key.length = n) (hm : n ≤ maxLen) :
    SeeK w mb (trAt L k).m.L key B n d :=
  ⟨fun u b => by
    have hs : SlotR u (.map mb) (trAt L k).m.L := by
      rw [← hv]
      exact (h.own k hk).same fun x hx => b.block x (h.lt (h.footK hx))
    exact hs.look (fun x hx => by
      have := (hU k (by rw [trM_len]; exact hk)).keys x (by rw [trM_at]; exact hx)
      exact this.1) hob (by omega), fun u b => by rw [← hn]; exact str_bytS (hb.after b) d⟩
theorem RepV.mapV {w : World} {gt gm : Nat} {vl : Value} {L : List TR} {F : Nat → Prop} (h : RepV w gt gm vl L F) {k : Nat} (hk : k < L.length) : ∃ mb, (trAt L k).v = .map mb := by
  rcases h.own k hk with ⟨h, _⟩ | ⟨b, h, _⟩
  · exact ⟨_, h⟩
  · exact ⟨_, h⟩

set_option maxHeartbeats 2000000 in
theorem q9_Look (w : World) (gt gm : Nat) (T : TT) (F : Nat → Prop) (i : Int) (key : List Int) (B : Option Addr) (n d : Nat) (h : RepU w gt gm T F) (hT : T.length ≤ 1000) (hb : BytS w B key) (hob : OkB key) (hn : key.length = n) (hnd : n ≤ d) (hdm : d ≤ maxLen) :
    Calls Tryz.prog 159 #[.pointer (some ⟨gt, 0, none⟩), .int .i64 i, .slice B n d] w (Gives (.tuple #[.int .u64 (tLook T i key).1, .int .i64 (tLook T i key).2]) w) := by
  unfold tLook
  cases hm : tMay T i key
  · rw [if_neg Bool.false_ne_true]
    exact q9_Look_no w gt gm T F i key B n d h hn hnd hm
  · rw [if_pos rfl]
    obtain ⟨i0, i1, hq⟩ := may_yes hm
    obtain ⟨k, rfl⟩ : ∃ k : Nat, i = k := ⟨i.toNat, by omega⟩
    rw [Int.toNat_natCast] at hq ⊢
    have hsm := fun s => find_small h.ok (i := k) (by omega) (key := key) (s := s)
    have hok := h.ok
    obtain ⟨vl, L, rfl, hV, -⟩ := id h
    rw [trM_len] at i1 hT
    have hk : k < L.length := by omega
    rw [trM_at] at hq hsm ⊢
    have FI := Lib.hid (q9_find_yes w gt gm vl L F k key B n d h hV hk hn hnd (by omega))
    obtain ⟨mb, hmb⟩ := hV.mapV hk
    have SK := Lib.hid (hV.seeK (d := d) hok hk hmb hb hob hn (by omega))
    unfold kV at FI
    rw [hmb] at FI
    have AR : Hid (∀ s : Nat, s < 1024 → ∀ u, Calls Tryz.prog 99 #[.int .i64 (k : Int), .int .i64 (s : Int)] u (Gives (.int .i64 (tArea k s)) u)) := Lib.hid fun s hs u => q9_Area k s u (by omega) (by omega)
    have AT : Hid (∀ a u, Calls Tryz.prog 20 #[.int .i64 a, .int .i64 0] u (Gives (.int .u64 (atI a 0)) u)) := Lib.hid fun a u => c8_At a 0 u
    clear h hb hm hV hok hq hn hob hmb
    generalize (trAt L k).m.d.key = q at *
    generalize (trAt L k).m.d.hash = qh at *
    generalize (trAt L k).m.d.val = qv at *
    generalize (trAt L k).m.d.max = qm at *
    generalize (trAt L k).m.made = qd at *
    generalize (trAt L k).m.L = K at *
    cases hs : tFind K key with
    | none =>
      clear hsm
      dsimp only
      go_enter Tryz.func159, Tryz.ntmps159
      go_wp2_with fail
      refine (FI.out).mono ?_
      rintro e w1 ⟨rfl, b1⟩
      have V := Lib.hid (below_alloc b1 (.cells #[.bool qh, .int .i64 q, .int .i64 qv, .int .i64 qm, .map mb, .int .i64 qd] 118))
      have LK := SK.out.look _ V.out
      have ST := SK.out.str _ V.out
      clear b1
      rw [hs] at LK
      rw [show (((none : Option Nat).getD 0 : Nat) : Int) = 0 from rfl, show (none : Option Nat).isSome = false from rfl] at LK
      clear hs
      go_wp2_with fail
      go_ret2
      exact ⟨rfl, V.out⟩
    | some s =>
      have s1 := hsm s hs
      clear hsm
      have A1 := Lib.hid (AR.out s s1)
      have A2 := Lib.hid (AT.out (tArea k s))
      dsimp only
      generalize atI (tArea k s) 0 = at_ at *
      generalize tArea k s = ar at *
      go_enter Tryz.func159, Tryz.ntmps159
      go_wp2_with fail
      refine (FI.out).mono ?_
      rintro e w1 ⟨rfl, b1⟩
      have V := Lib.hid (below_alloc b1 (.cells #[.bool qh, .int .i64 q, .int .i64 qv, .int .i64 qm, .map mb, .int .i64 qd] 118))
      have LK := SK.out.look _ V.out
      have ST := SK.out.str _ V.out
      clear b1
      rw [hs] at LK
      rw [show (((some s : Option Nat).getD 0 : Nat) : Int) = (s : Int) from rfl, show (some s : Option Nat).isSome = true from rfl] at LK
      clear hs
      go_wp2_with fail
      refine (A1.out _).mono ?_
      rintro e w3 ⟨rfl, b3⟩
      replace V := Lib.hid (below_next' V.out b3)
      clear b3
      go_wp2_with fail
      refine (A2.out _).mono ?_
      rintro e w4 ⟨rfl, b4⟩
      replace V := Lib.hid (below_next' V.out b4)
      clear b4
      go_wp2_with fail
      go_ret2
      exact ⟨rfl, V.out⟩

end Go.Proofs.YtfniahmfoigceaaGreat

namespace Go.Proofs.YtfniahmfoigceaaGreat
open Go.RowKit
set_option maxRecDepth 100000
set_option linter.unusedVariables false
set_option linter.unusedSimpArgs false

theorem nodup_le {α : Type} {l m : List α} (h : l.Nodup) (hs : ∀ x ∈ l, x ∈ m) : l.length ≤ m.length := by
  classical
  induction l generalizing m with
  | nil => simp
  | cons a l ih =>
    obtain ⟨h1, h2⟩ := List.nodup_cons.1 h
    have ha : a ∈ m := hs a (List.mem_cons_self ..)
    have := ih (m := m.erase a) h2 (fun x hx => (List.mem_erase_of_ne (fun e => h1 (by rw [← e]; exact hx))).2 (hs x (List.mem_cons_of_mem _ hx)))
    rw [List.length_erase_of_mem ha] at this
    have : 0 < m.length := List.length_pos_of_mem ha
    simp only [List.length_cons]
    omega
theorem kLit_inj {a b : List Int} (ha : OkB a) (hb : OkB b) (h : kLit a = kLit b) : a = b := by
  unfold kLit at h
  simp only [Lit.string.injEq] at h
  have := eq_str ha hb
  rw [h] at this
  simpa using this
/-- Keys as they may be. -/
structure KOk (K : List TK) : Prop where
  byt : ∀ x ∈ K, OkB x.k
  rise : K.Pairwise fun x y => kLt x.k y.k = true
theorem TM.ok.kok {m : TM} (h : m.ok) : KOk m.L := ⟨fun x hx => (h.keys x hx).1, h.rise⟩
theorem kok_nodup {K : List TK} (h : KOk K) : (K.map fun x => (strOfNums x.k).toList).Nodup := by
  obtain ⟨h1, h2⟩ := h
  induction K with
  | nil => exact List.nodup_nil
  | cons x K ih =>
    obtain ⟨h3, h4⟩ := List.pairwise_cons.1 h2
    rw [List.map_cons, List.nodup_cons]
    refine ⟨fun hm => ?_, ih (fun y hy => h1 y (List.mem_cons_of_mem _ hy)) h4⟩
    obtain ⟨y, hy, e⟩ := List.mem_map.1 hm
    have := eq_str (h1 y (List.mem_cons_of_mem _ hy)) (h1 x (List.mem_cons_self ..))
    rw [e] at this
    simp only [beq_self_eq_true] at this
    have e2 : y.k = x.k := by simpa using this
    exact kLt_ne (h3 y hy) e2.symm
theorem str_some {K : List TK} {kl : Lit} (h : (strM K kl).isSome = true) : ∃ x ∈ K, kl = kLit x.k := by
  unfold strM at h
  split at h
  · rename_i s
    cases hf : K.find? (fun x => (strOfNums x.k).toList == s) with
    | none => rw [hf] at h; cases h
    | some x =>
      refine ⟨x, List.mem_of_find?_eq_some hf, ?_⟩
      have := List.find?_some hf
      simp only [beq_iff_eq] at this
      unfold kLit
      rw [this]
  · cases h
theorem str_mem {K : List TK} {x : TK} (hx : x ∈ K) : (strM K (kLit x.k)).isSome = true := by
  unfold strM kLit
  simp only [Option.isSome_map, List.find?_isSome]
  exact ⟨x, hx, by simp⟩
theorem mapIs_size {w : World} {b n : Nat} {K : List TK} (h : MapIs Tryz.prog 9 w b n (strM K)) (hK : KOk K) :
    ∃ D, w.ownsMap Tryz.prog 9 rawElem b n D ∧ Maps.size D = K.length ∧ ∀ kl, WideAt.IsKeyLit kl → Maps.has D kl = (strM K kl).isSome ∧ ∀ z, D.atKey kl z = (strM K kl).elim z .held := by
  obtain ⟨D, ho, hm⟩ := h
  refine ⟨D, ho, ?_, hm⟩
  obtain ⟨es, rfl, hp, hk⟩ := ho.entries strK
  show es.length = K.length
  have hn : (es.map (·.1)).Nodup := by
    rw [List.nodup_iff_pairwise_ne, List.pairwise_map]
    exact hp
  have hkn : (K.map fun x => kLit x.k).Nodup := by
    have h1 := kok_nodup hK
    rw [List.nodup_iff_pairwise_ne, List.pairwise_map] at h1 ⊢
    exact h1.imp fun hne e => hne (by unfold kLit at e; simpa using e)
  have i1 : ∀ x ∈ es.map (·.1), x ∈ K.map fun x => kLit x.k := fun x hx => by
    obtain ⟨p, hp, rfl⟩ := List.mem_map.1 hx
    have h1 : Maps.has (DataW.map es) p.1 = true := List.any_eq_true.2 ⟨p, hp, WideAt.sameKey_self (hk p hp)⟩
    rw [(hm p.1 (hk p hp)).1] at h1
    obtain ⟨y, hy, e⟩ := str_some h1
    exact List.mem_map.2 ⟨y, hy, e.symm⟩
  have i2 : ∀ x ∈ K.map (fun x => kLit x.k), x ∈ es.map (·.1) := fun x hx => by
    obtain ⟨y, hy, rfl⟩ := List.mem_map.1 hx
    have h1 := str_mem hy
    rw [← (hm (kLit y.k) trivial).1] at h1
    obtain ⟨p, hp, e⟩ := List.any_eq_true.1 h1
    exact List.mem_map.2 ⟨p, hp, WideAt.sameKey_eq e⟩
  have l1 := nodup_le hn i1
  have l2 := nodup_le hkn i2
  simp only [List.length_map] at l1 l2
  omega
theorem mapIs_tight {w : World} {b n : Nat} {K : List TK} (h : MapIs Tryz.prog 9 w b n (strM K)) (hK : KOk K) : MapIs Tryz.prog 9 w b K.length (strM K) := by
  obtain ⟨D, ho, hs, hm⟩ := mapIs_size h hK
  refine ⟨D, ?_, hm⟩
  obtain ⟨es, clock, hb, F, hn, rfl⟩ := ho
  refine ⟨es, clock, hb, F, ?_, rfl⟩
  have : Maps.size (DataW.map ((es.toList.map (WideElems.rg Tryz.prog 9 rawElem)).foldr DataW.insert [])) = es.size := by simp [Maps.size, length_sorted]
  omega
/-- 'len(slots)'. -/
theorem SlotR.len {w : World} {mb : Option Nat} {K : List TK} (h : SlotR w (.map mb) K) (hK : KOk K) (ty : TypeId) : (Builtin.len_ #[116] ty #[.map mb]).run Tryz.prog w = .ok (.int .i64 (K.length : Int)) w := by
  rcases h with ⟨e, rfl⟩ | ⟨b, e, h⟩
  · cases e
    exact Maps.len_nil Tryz.underlying116 ty
  · cases e
    obtain ⟨D, ho, hs, -⟩ := mapIs_size h hK
    rw [ho.len Tryz.underlying116 ty, hs]

/-- The program's maps have become other ones, and one answer is told. -/
def MapQ (gt gm : Nat) (F : Nat → Prop) (T : TT) (v : Value) (w : World) (e : Ending) (w' : World) : Prop :=
  e = .returned v ∧ ∃ F', RepU w' gt gm T F' ∧ Turn F w w' ∧ ∀ x, F' x → F x ∨ w.heap.size ≤ x
theorem mapQ_same {w w' : World} {gt gm : Nat} {T : TT} {F : Nat → Prop} {v : Value} (h : RepU w gt gm T F) (b : Below w.heap.size w w') : MapQ gt gm F T v w (.returned v) w' :=
  ⟨rfl, F, h.after b, Turn.of_below b, fun x hx => .inl hx⟩
/-- A key has been let go of. -/
theorem drop_done {w u u' : World} {gt gm k b : Nat} {vl : Value} {L : List TR} {F : Nat → Prop} {key : List Int} (hF : TFull (trM L)) (h : RepV w gt gm vl L F) (hv : ∀ j, j < L.length → (trAt L j).v ≠ .map none) (hk : k < L.length) (hmb : (trAt L k).v = .map (some b)) (hob : OkB key) (hh : (trAt L k).m.d.hash = true)
    (V : Below w.heap.size w u) (hm : MapIs Tryz.prog 9 u' b (trAt L k).m.L.length (putM (strM (trAt L k).m.L) (kLit key) none)) (hg : u.grownBy u' (some b)) :
    MapQ gt gm F ((trM L).set k ⟨(trAt L k).m.d, leftK (trAt L k).m.L key, (trAt L k).m.made⟩) (.tuple #[.int .u64 0, .int .i64 0]) w (.returned (.tuple #[.int .u64 0, .int .i64 0])) u' := by
  have hok := hF.ok k (by rw [trM_len]; exact hk)
  rw [trM_at] at hok
  have hFb : F b := h.footK (k := k) (by rw [hmb]; rfl)
  have hL : trC (L.set k ⟨⟨(trAt L k).m.d, leftK (trAt L k).m.L key, (trAt L k).m.made⟩, (trAt L k).v⟩) = trC L := by
    rw [trC_set4 hk]
    apply List.ext_getElem?
    intro j
    rw [List.getElem?_set]
    by_cases e : k * 6 + 4 = j
    · rw [if_pos e, if_pos (by rw [trC_len]; omega), ← e, trC_at L k 4 hk (by omega)]; rfl
    · rw [if_neg e]
  have hsame : ∀ x, F x → x ≠ b → u'.heap[x]? = w.heap[x]? := fun x hx hne => (hg.block x (Nat.lt_of_lt_of_le (h.lt hx) V.size) (by simpa using hne)).trans (V.block x (h.lt hx))
  have hbr : vl.ownBlock ≠ some b := fun e => by
    have := h.apart 1 (k + 2) b e (by rw [qBlk_k, hmb]; rfl)
    omega
  obtain ⟨F', hR, hF'⟩ := h.put (r := ⟨⟨(trAt L k).m.d, leftK (trAt L k).m.L key, (trAt L k).m.made⟩, (trAt L k).v⟩) (u := u') hk
    (fun x hx _ hne => hsame x hx (fun e => hne (by rw [hmb, e]; rfl)))
    (by rw [hL]; exact own_same h.row (fun x hx => hsame x (h.foot1 hx) (fun e => hbr (by rw [← e]; exact hx))))
    (by
      show SlotR u' (trAt L k).v (leftK (trAt L k).m.L key)
      rw [hmb]
      exact .inr ⟨b, rfl, mapIs_tight (hm.eq fun kl _ => str_drop (fun x hx => (hok.keys x hx).1) hob kl) (leftK_ok hok key).kok⟩)
    (.inl rfl)
  refine ⟨rfl, F', ⟨vl, _, ?_, hR, ⟨fun j hj => ?_, fun j hj hj2 => ?_⟩, fun j hj => ?_⟩, (Turn.of_below V).trans (G := fun x => x = b) ⟨hg.os, hg.tape, hg.output, hg.size, fun x hx hne => hg.block x hx (by simpa using hne)⟩ (fun x hx => .inl (by rw [hx]; exact hFb)), hF'⟩
  · unfold trM; rw [List.map_set]
  · rw [List.length_set, trM_len] at hj
    rw [mt_set (by rw [trM_len]; exact hk)]
    by_cases e : j = k
    · rw [if_pos e]; exact leftK_ok hok key
    · rw [if_neg e]; exact hF.ok j (by rw [trM_len]; exact hj)
  · rw [List.length_set, trM_len] at hj
    rw [mt_set (by rw [trM_len]; exact hk)] at hj2 ⊢
    by_cases e : j = k
    · rw [if_pos e] at hj2
      simp only at hj2
      rw [hh] at hj2
      cases hj2
    · rw [if_neg e] at hj2 ⊢; exact hF.full j (by rw [trM_len]; exact hj) hj2
  · rw [List.length_set] at hj
    rw [trAt_set hk]
    by_cases e : j = k
    · rw [if_pos e]; exact hv k hk
    · rw [if_neg e]; exact hv j hj

end Go.Proofs.YtfniahmfoigceaaGreat

namespace Go.Proofs.YtfniahmfoigceaaGreat
open Go.RowKit
set_option maxRecDepth 100000
set_option linter.unusedVariables false
set_option linter.unusedSimpArgs false

set_option maxHeartbeats 2000000 in
theorem q9_Drop (w : World) (gt gm : Nat) (T : TT) (F : Nat → Prop) (i : Int) (key : List Int) (B : Option Addr) (n d : Nat) (h : RepU w gt gm T F) (hT : T.length ≤ 1000) (hb : BytS w B key) (hob : OkB key) (hn : key.length = n) (hnd : n ≤ d) (hdm : d ≤ maxLen) :
    Calls Tryz.prog 160 #[.pointer (some ⟨gt, 0, none⟩), .int .i64 i, .slice B n d] w (MapQ gt gm F (tDrop T i key).1 (.tuple #[.int .u64 (tDrop T i key).2.1, .int .i64 (tDrop T i key).2.2]) w) := by
  unfold tDrop
  cases hm : tMay T i key
  · rw [if_neg Bool.false_ne_true]
    have FI := Lib.hid (q9_find_no w gt gm T F i key B n d h hn hnd hm)
    rw [show kZ = .agg #[.bool false, .int .i64 0, .int .i64 0, .int .i64 0, .map none, .int .i64 0] from rfl] at FI
    have HH := Lib.hid h
    clear h hm hn hb hob
    dsimp only
    go_enter Tryz.func160, Tryz.ntmps160
    go_wp2_with fail
    refine (FI.out).mono ?_
    rintro e w1 ⟨rfl, b1⟩
    have V := Lib.hid b1
    clear b1
    go_wp2_with fail
    go_ret2
    exact mapQ_same HH.out (below_alloc V.out _)
  · rw [if_pos rfl]
    obtain ⟨i0, i1, hq⟩ := may_yes hm
    obtain ⟨k, rfl⟩ : ∃ k : Nat, i = k := ⟨i.toNat, by omega⟩
    rw [Int.toNat_natCast] at hq ⊢
    have hok := h.ok
    have HH := Lib.hid h
    obtain ⟨vl, L, rfl, hV, hTF, hnn⟩ := id h
    rw [trM_len] at i1 hT
    have hk : k < L.length := by omega
    rw [trM_at] at hq ⊢
    have FI := Lib.hid (q9_find_yes w gt gm vl L F k key B n d h hV hk hn hnd (by omega))
    obtain ⟨mb, hmb⟩ := hV.mapV hk
    have SK := Lib.hid (hV.seeK (d := d) hok hk hmb hb hob hn (by omega))
    have DN := Lib.hid fun (u u' : World) (b : Nat) (e : mb = some b) hh => drop_done (u := u) (u' := u') (b := b) (key := key) hTF hV hnn hk (by rw [hmb, e]) hob hh
    have SL := Lib.hid (hV.own k hk)
    have HL := Lib.hid fun x (hx : F x) => hV.lt hx
    unfold kV at FI
    rw [hmb] at FI
    have hb0 : ∃ b, mb = some b := by
      cases mb with
      | none => exact absurd hmb (hnn k hk)
      | some b => exact ⟨b, rfl⟩
    obtain ⟨b, rfl⟩ := hb0
    rw [hmb] at SL
    have hkl : key.length ≤ maxLen := by omega
    clear h hb hm hV hok hq hn hmb hTF hnn
    dsimp only
    generalize (trAt L k).m.d.key = q at *
    generalize hqh : (trAt L k).m.d.hash = qh at *
    generalize (trAt L k).m.d.val = qv at *
    generalize (trAt L k).m.d.max = qm at *
    cases qh
    · rw [if_pos rfl, show minusI 22 = 18446744073709551594 from rfl]
      clear DN SL
      generalize (trAt L k).m.made = qd at *
      go_enter Tryz.func160, Tryz.ntmps160
      go_wp2_with fail
      refine (FI.out).mono ?_
      rintro e w1 ⟨rfl, b1⟩
      have V := Lib.hid b1
      clear b1
      go_wp2_with fail
      go_ret2
      exact mapQ_same HH.out (below_alloc V.out _)
    · rw [if_neg (by simp)]
      cases hs : tFind (trAt L k).m.L key with
      | none =>
        dsimp only
        rw [show minusI 2 = 18446744073709551614 from rfl]
        clear DN SL
        generalize (trAt L k).m.made = qd at *
        go_enter Tryz.func160, Tryz.ntmps160
        go_wp2_with fail
        refine (FI.out).mono ?_
        rintro e w1 ⟨rfl, b1⟩
        have V := Lib.hid (below_alloc b1 (.cells #[.bool true, .int .i64 q, .int .i64 qv, .int .i64 qm, .map (some b), .int .i64 qd] 118))
        have LK := SK.out.look _ V.out
        have ST := SK.out.str _ V.out
        clear b1
        rw [hs] at LK
        rw [show (((none : Option Nat).getD 0 : Nat) : Int) = 0 from rfl, show (none : Option Nat).isSome = false from rfl] at LK
        clear hs
        go_wp2_with fail
        go_ret2
        exact mapQ_same HH.out V.out
      | some s =>
        dsimp only
        have DR : Hid (∀ u, Below w.heap.size w u → ∃ w', (∀ ty, (Builtin.delete_ #[116, 9] ty #[.map (some b), .string (strOfNums key)]).run Tryz.prog u = .ok (.tuple #[]) w') ∧ MapQ gt gm F ((trM L).set k ⟨(trAt L k).m.d, leftK (trAt L k).m.L key, (trAt L k).m.made⟩) (.tuple #[.int .u64 0, .int .i64 0]) w (.returned (.tuple #[.int .u64 0, .int .i64 0])) w') := Lib.hid fun u V => by
          have hms := (SL.out.same (w' := u) (fun x hx => V.block x (SL.out.lt hx))).is
          obtain ⟨w', hr, hm', hg⟩ := hms.drop strK Tryz.underlying116 (keyOf_key hkl) 0
          exact ⟨w', fun ty => hr, DN.out u w' b rfl rfl V hm' hg⟩
        clear DN SL
        have hfil : (trAt L k).m.L.filter (fun x => !(x.k == key)) = leftK (trAt L k).m.L key := rfl
        rw [hfil]
        generalize (trM L).set k ⟨(trAt L k).m.d, leftK (trAt L k).m.L key, (trAt L k).m.made⟩ = T' at *
        generalize (trAt L k).m.made = qd at *
        go_enter Tryz.func160, Tryz.ntmps160
        go_wp2_with fail
        refine (FI.out).mono ?_
        rintro e w1 ⟨rfl, b1⟩
        have V := Lib.hid (below_alloc b1 (.cells #[.bool true, .int .i64 q, .int .i64 qv, .int .i64 qm, .map (some b), .int .i64 qd] 118))
        have LK := SK.out.look _ V.out
        have ST := SK.out.str _ V.out
        obtain ⟨w', hr, DONE⟩ := DR.out _ V.out
        replace DONE := Lib.hid DONE
        clear b1
        rw [hs] at LK
        rw [show (((some s : Option Nat).getD 0 : Nat) : Int) = (s : Int) from rfl, show (some s : Option Nat).isSome = true from rfl] at LK
        clear hs
        go_wp2_with fail
        go_ret2
        exact DONE.out

end Go.Proofs.YtfniahmfoigceaaGreat

namespace Go.Proofs.YtfniahmfoigceaaGreat
open Go.RowKit
set_option maxRecDepth 100000
set_option linter.unusedVariables false
set_option linter.unusedSimpArgs false

theorem RepQ.look {w : World} {g : Nat} {mv : Value} {L : List AR} {F : Nat → Prop} (h : RepQ w g mv L F) (u : World) (b : Below w.heap.size w u) (i : Int) (hi : -9223372036854775808 ≤ i ∧ i ≤ 9223372036854775807) :
    (Instr.lookup 155 mv (.int .i64 i) true).run Tryz.prog u = .ok (.tuple #[(rgF L i).getD rgZ, .bool (rgF L i).isSome]) u :=
  (h.map.same (w' := u) (fun x hx => b.block x (h.map.lt hx))).look i hi
theorem rgF_some {L : List AR} {i : Int} {k : Nat} (h : pIx (arM L) i = some k) : rgF L i = some (rgV (arAt L k)) := by unfold rgF; rw [h]; rfl
theorem rgF_none {L : List AR} {i : Int} (h : pIx (arM L) i = none) : rgF L i = none := by unfold rgF; rw [h]; rfl
theorem RepQ.after {w u : World} {g : Nat} {mv : Value} {L : List AR} {F : Nat → Prop} (h : RepQ w g mv L F) (b : Below w.heap.size w u) : RepQ u g mv L F := h.keep fun x hx => b.block x (h.lt hx)

set_option maxRecDepth 100000 in
set_option maxHeartbeats 2000000 in
theorem c8_find_in (w : World) (g : Nat) (mv : Value) (L : List AR) (F : Nat → Prop) (at_ s : Int) (h : RepQ w g mv L F) (ha : 0 ≤ at_ ∧ at_ ≤ 18446744073709551615) (hs : 0 ≤ s ∧ s ≤ 1024) (k o : Nat) (hw : pWh (arM L) at_ s = some (k, o)) :
    Calls Tryz.prog 167 #[.pointer (some ⟨g, 0, none⟩), .int .u64 at_, .int .i64 s] w (Gives (.tuple #[rgV (arAt L k), .int .i64 o, .bool true]) w) := by
  obtain ⟨hx, hk, ho, hfit, _⟩ := pWh_some hw
  rw [arM_len] at hk
  rw [arM_at] at hfit
  have hfit2 := hfit hs.1
  have hok := h.ok k (by rw [arM_len]; exact hk)
  rw [arM_at] at hok
  obtain ⟨_, hbl, hb1024, _⟩ := hok
  have c0 := cell_alloc h.cell (.cells #[.slice none 0 0, .slice none 0 0, .bool false] 159)
  have HLK := h.look (w.alloc (.cells #[.slice none 0 0, .slice none 0 0, .bool false] 159)) (below_alloc (Below.refl _ _) _) (at_ / 4294967296) (by omega)
  rw [rgF_some hx] at HLK
  have hand : bits .and .u64 at_ 4294967295 = at_ % 4294967296 := by
    have := and_low (n := at_) (k := 32) ha (by omega)
    simpa using this
  rw [ho] at hand
  obtain ⟨Ab, cb, hvb, _, _⟩ := own_slice (h.own k hk).1
  obtain ⟨Ak, ck, hvk, _, _⟩ := own_slice (h.own k hk).2
  have hv : rgV (arAt L k) = .agg #[.slice Ab (arAt L k).a.b.length cb, .slice Ak (arAt L k).a.bl.length ck, .bool (arAt L k).a.fx] := by unfold rgV; rw [hvb, hvk]
  rw [hv] at HLK ⊢
  dsimp only [Option.getD_some, Option.isSome_some] at HLK
  generalize (arAt L k).a.fx = fx at *
  generalize (arAt L k).a.b.length = lb at *
  generalize (arAt L k).a.bl.length = lk at *
  have hq : 0 ≤ at_ / 4294967296 ∧ at_ / 4294967296 ≤ 4294967295 := by omega
  have hon : o < 4294967296 := by omega
  generalize hqq : at_ / 4294967296 = q at *
  have hfz : (o : Int) + s ≤ lb := by omega
  have hsum : IntKind.u64.wrap ((o : Int) + s) = (o : Int) + s := by rw [IntKind.wrap_u64]; omega
  have o0 : (0 : Int) ≤ o := by omega
  clear h hw hx hfit hfit2 ho hbl hvb hvk hv
  go_enter Tryz.func167, Tryz.ntmps167
  go_wp2_with fail
  exact bodyPost_ret (v := .tuple #[.agg #[.slice Ab lb cb, .slice Ak lk ck, .bool fx], .int .i64 o, .bool true]) (by simp [results, Tryz.results167, go_sem, World.cell?_alloc_new]) rfl ⟨rfl, below_alloc (Below.refl _ _) _⟩

set_option maxRecDepth 100000 in
set_option maxHeartbeats 2000000 in
theorem c8_find_out (w : World) (g : Nat) (mv : Value) (L : List AR) (F : Nat → Prop) (at_ s : Int) (h : RepQ w g mv L F) (ha : 0 ≤ at_ ∧ at_ ≤ 18446744073709551615) (hs : 0 ≤ s ∧ s ≤ 1024) (hw : pWh (arM L) at_ s = none) :
    Calls Tryz.prog 167 #[.pointer (some ⟨g, 0, none⟩), .int .u64 at_, .int .i64 s] w (Gives (.tuple #[rgZ, .int .i64 0, .bool false]) w) := by
  have c0 := cell_alloc h.cell (.cells #[.slice none 0 0, .slice none 0 0, .bool false] 159)
  have HLK := h.look (w.alloc (.cells #[.slice none 0 0, .slice none 0 0, .bool false] 159)) (below_alloc (Below.refl _ _) _) (at_ / 4294967296) (by omega)
  have hand : bits .and .u64 at_ 4294967295 = at_ % 4294967296 := by
    have := and_low (n := at_) (k := 32) ha (by omega)
    simpa using this
  have hq : 0 ≤ at_ / 4294967296 ∧ at_ / 4294967296 ≤ 4294967295 := by omega
  have hz : rgZ = .agg #[.slice none 0 0, .slice none 0 0, .bool false] := rfl
  have hs' := hs
  obtain ⟨o, ho⟩ : ∃ o : Nat, at_ % 4294967296 = o := ⟨(at_ % 4294967296).toNat, by omega⟩
  have hon : o < 4294967296 := by omega
  have o0 : (0 : Int) ≤ o := by omega
  rw [ho] at hand
  cases hx : pIx (arM L) (at_ / 4294967296) with
  | none =>
    rw [rgF_none hx] at HLK
    dsimp only [Option.getD_none, Option.isSome_none] at HLK
    rw [hz] at HLK ⊢
    generalize hqq : at_ / 4294967296 = q at *
    clear h hw hx hz ho
    go_enter Tryz.func167, Tryz.ntmps167
    go_wp2_with fail
    exact bodyPost_ret (v := .tuple #[.agg #[.slice none 0 0, .slice none 0 0, .bool false], .int .i64 0, .bool false]) (by simp [results, Tryz.results167, go_sem, World.cell?_alloc_new]) rfl ⟨rfl, below_alloc (Below.refl _ _) _⟩
  | some k =>
    have hk := (pIx_some hx).1
    rw [arM_len] at hk
    have hok := h.ok k (by rw [arM_len]; exact hk)
    rw [arM_at] at hok
    obtain ⟨_, hbl, hb1024, _⟩ := hok
    rw [rgF_some hx] at HLK
    obtain ⟨Ab, cb, hvb, _, _⟩ := own_slice (h.own k hk).1
    obtain ⟨Ak, ck, hvk, _, _⟩ := own_slice (h.own k hk).2
    have hv : rgV (arAt L k) = .agg #[.slice Ab (arAt L k).a.b.length cb, .slice Ak (arAt L k).a.bl.length ck, .bool (arAt L k).a.fx] := by unfold rgV; rw [hvb, hvk]
    rw [hv] at HLK
    rw [hz]
    dsimp only [Option.getD_some, Option.isSome_some] at HLK
    have hno : ¬ ((o : Int) + s ≤ ((arAt L k).a.b.length : Int)) := fun hc => by
      unfold pWh at hw
      rw [hx] at hw
      simp only at hw
      rw [arM_at, ho, if_pos (by omega)] at hw
      cases hw
    generalize (arAt L k).a.fx = fx at *
    generalize (arAt L k).a.b.length = lb at *
    generalize (arAt L k).a.bl.length = lk at *
    have hsum : IntKind.u64.wrap ((o : Int) + s) = (o : Int) + s := by rw [IntKind.wrap_u64]; omega
    have hlt : (lb : Int) < (o : Int) + s := by omega
    generalize hqq : at_ / 4294967296 = q at *
    clear h hw hx hz ho hbl hvb hvk hv hno
    go_enter Tryz.func167, Tryz.ntmps167
    go_wp2_with fail
    exact bodyPost_ret (v := .tuple #[.agg #[.slice none 0 0, .slice none 0 0, .bool false], .int .i64 0, .bool false]) (by simp [results, Tryz.results167, go_sem, World.cell?_alloc_new]) rfl ⟨rfl, below_alloc (Below.refl _ _) _⟩

end Go.Proofs.YtfniahmfoigceaaGreat
