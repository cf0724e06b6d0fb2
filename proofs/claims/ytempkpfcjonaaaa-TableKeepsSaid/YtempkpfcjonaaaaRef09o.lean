/-
  Layer 9's own New: one map more is laid behind the others.
  Conditions: few maps.
-/
import Derived.Test.YtempkpfcjonaaaaRef09n
import Derived.Maps.AppendAt
namespace Go.Proofs.Ytempkpfcjonaaaa
open Go.RowKit
set_option maxRecDepth 100000
set_option linter.unusedVariables false
set_option linter.unusedSimpArgs false

theorem cT_one (r : TR) (v : Value) (hv : r.v = v) (h1 : v.oneCell' = true) : ∀ u ∈ cT r, u.oneCell' = true := by
  intro u hu
  simp only [cT, List.mem_cons, List.not_mem_nil, or_false] at hu
  rcases hu with rfl | rfl | rfl | rfl | rfl | rfl <;> first | rfl | (rw [hv]; exact h1)
/-- A map, appended to a row of them; where the row then lies. -/
theorem append_map (u : World) (vl : Value) (L : List TR) (r : TR) (ty : TypeId) {A : Option Addr} {n c : Nat} (hv : r.v = .slice A n c) (hrow : u.ownsRow 0 85 6 vl L.length (trC L)) {b : Nat} (hblk : Blk b (cT r).toArray 85 u) (hn : L.length ≤ 1000) :
    ∃ v' w', (Builtin.append_ #[80, 80] ty #[vl, .slice (some ⟨b, 0, none⟩) 1 1]).run Try.prog u = .ok v' w' ∧ w'.ownsRow 0 85 6 v' (L.length + 1) (trC (L ++ [r])) ∧ u.grownBy w' vl.ownBlock ∧ (v'.ownBlock = vl.ownBlock ∨ v'.ownBlock = some u.heap.size) := by
  obtain ⟨i1, hi1, hz, q1, q2⟩ := info_parts (show (Try.prog.info? 85).map (fun i => (i.zero, i.size, i.bytes)) = some (some (.agg #[.bool false, .int .i64 0, .int .i64 0, .int .i64 0, .slice none 0 0, .int .i64 0]), 6, 64) by kernel_rfl)
  have hnews : ∀ j x, (cT r)[j]? = some x → u.cell? ((⟨b, 0, none⟩ : Addr).add j) = some x := by
    intro j x hx
    have hadd : (⟨b, 0, none⟩ : Addr).add j = ⟨b, j, none⟩ := by unfold Addr.add; split <;> simp_all
    rw [hadd, Blk.cell hblk j]
    simpa using hx
  obtain ⟨v', w', hr, ho, hg, _, hat⟩ := run_append_own_at (P := Try.prog) u 0 80 ty 85 i1 (.agg #[.bool false, .int .i64 0, .int .i64 0, .int .i64 0, .slice none 0 0, .int .i64 0]) 6 64 Try.underlying80 hi1 hz q1 q2 rfl (by omega) vl L.length (trC L) hrow ⟨b, 0, none⟩ 1 1 (cT r) rfl hnews (cT_one r _ hv rfl) (by unfold maxLen; omega) (by omega) (Nat.zero_le _)
  refine ⟨v', w', hr, ?_, hg, hat⟩
  rw [trC_app, show trC [r] = cT r by simp [trC]]
  exact ho
/-- One map more: laid behind the others, and told to the tables' block. -/
theorem newS_add {w u w' : World} {gt g2 j : Nat} {G F G' : Nat → Prop} {M0 M : PM} {l : List Df} {vl v' : Value} {L : List TR} {r : TR} (hm : RepT u gt g2 vl L F) (hr : RepR u g2 M G') (ha : ∀ x, F x → ¬ G' x) (ht : Turn G w u) (hf : ∀ x, G' x → G x ∨ w.heap.size ≤ x) (hnew : ∀ x, F x → w.heap.size ≤ x) (hlen : L.length = j)
    (hrow : w'.ownsRow 0 85 6 v' (L.length + 1) (trC (L ++ [r]))) (hg : u.grownBy w' vl.ownBlock) (hat : v'.ownBlock = vl.ownBlock ∨ v'.ownBlock = some u.heap.size)
    (hown : KOwn u r.v r.m.L) (hk : ∀ x, r.v.ownBlock = some x → ¬ F x ∧ ¬ G' x ∧ w.heap.size ≤ x) (hok : r.m.ok) (hall : tNewG (j + 1) (l.drop (j + 1)) M (trM (L ++ [r])) = tNewG 0 l M0 []) :
    ∃ F', NewS w gt g2 G M0 l (j + 1) v' (L ++ [r]) F' G' M (w'.setCell ⟨gt, 1, none⟩ v') := by
  have fgt := hm.foot0
  have ltg := hm.lt fgt
  have vne : vl.ownBlock ≠ some gt := fun e => by
    have := hm.apart 0 1 gt rfl (show trBlk gt vl L 1 = some gt from e)
    omega
  have vne' : v'.ownBlock ≠ some gt := fun e => by
    rcases hat with c | c
    · exact vne (c ▸ e)
    · rw [c] at e; injection e with e; omega
  have hst : ∀ x, x ≠ gt → (w'.setCell ⟨gt, 1, none⟩ v').heap[x]? = w'.heap[x]? := fun x hx => Below.heap_setCell _ _ _ _ hx
  have hgr : ∀ x, x < u.heap.size → vl.ownBlock ≠ some x → w'.heap[x]? = u.heap[x]? := fun x hx hne => hg.block x hx (fun e => hne e.symm)
  have klt : ∀ x, r.v.ownBlock = some x → x < u.heap.size := fun x hx => own_lt hown hx
  obtain ⟨F', q1, q2⟩ := RepT.add (u := w'.setCell ⟨gt, 1, none⟩ v') (vl' := v') (r := r) hm
    (fun x hx hne hnv => (hst x hne).trans (hgr x (hm.lt hx) hnv))
    (Blk.set (Blk.same hm.blk (hgr gt ltg vne)) 1 v')
    (own_same hrow (fun x hx => hst x (fun e => vne' (e ▸ hx))))
    (own_same hown (fun x hx => (hst x (fun e => (hk x hx).1 (e ▸ fgt))).trans (hgr x (klt x hx) (fun e => (hk x hx).1 (hm.foot1 e)))))
    (fun x hx => (hk x hx).1)
    (by
      rcases hat with c | c
      · exact .inl c
      · exact .inr ⟨_, c, fun hF => by have := hm.lt hF; omega, fun e => by have := klt _ e; omega⟩)
    hok
  have tn : Turn F u (w'.setCell ⟨gt, 1, none⟩ v') := ((Turn.refl F u).grown hg (fun k e => .inl (hm.foot1 e))).setCell (p := ⟨gt, 1, none⟩) (.inl fgt) _
  have hsz := ht.size
  have hF' : ∀ x, F' x → F x ∨ x = u.heap.size ∨ r.v.ownBlock = some x := fun x hx => by
    rcases q2 x hx with c | c | c
    · exact .inl c
    · rcases hat with k | k
      · exact .inl (hm.foot1 (k ▸ c))
      · rw [k] at c; injection c with c; exact .inr (.inl c.symm)
    · exact .inr (.inr c)
  refine ⟨F', q1, hr.turn tn (fun x hG hF => ha x hF hG), fun x hx hG => ?_, ht.trans tn (fun x hx => .inr (hnew x hx)), hf, fun x hx => ?_, by rw [List.length_append, hlen]; rfl, hall⟩
  · rcases hF' x hx with c | c | c
    · exact ha x c hG
    · have := hr.lt hG; omega
    · exact (hk x c).2.1 hG
  · rcases hF' x hx with c | c | c
    · exact hnew x c
    · omega
    · exact (hk x c).2.2

end Go.Proofs.Ytempkpfcjonaaaa
