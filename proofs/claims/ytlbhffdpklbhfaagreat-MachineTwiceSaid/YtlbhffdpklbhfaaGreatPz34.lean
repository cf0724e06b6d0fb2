/-
  Texts, one behind the other: MachPush, MachCall.
  Conditions: those that each theorem states.
-/
import Derived.Laws.IdiomCopy
import Derived.Lib.SliceRun
import Derived.Test.YtlbhffdpklbhfaaGreatPz33
import Derived.RegionTactic
namespace Go.Proofs.YtlbhffdpklbhfaaGreat
open Go.RowKit
set_option maxRecDepth 100000
set_option linter.unusedVariables false
set_option linter.unusedSimpArgs false
structure CRO (H : Nat → Prop) (r : CR) : Prop where
  k : ∀ g o, 0 < r.c.k.length → r.ka = some ⟨g, o, none⟩ → ¬ H g
  v : ∀ g o, 0 < r.c.v.length → r.va = some ⟨g, o, none⟩ → ¬ H g
  n : ∀ g o, 0 < r.c.n.length → r.na = some ⟨g, o, none⟩ → ¬ H g
def crB (r : CR) (x : Nat) : Prop := (0 < r.c.k.length ∧ ∃ o, r.ka = some ⟨x, o, none⟩) ∨ (0 < r.c.v.length ∧ ∃ o, r.va = some ⟨x, o, none⟩) ∨ (0 < r.c.n.length ∧ ∃ o, r.na = some ⟨x, o, none⟩)
theorem CRS.lt {u : World} {r : CR} (h : CRS u r) {x : Nat} (hx : crB r x) : x < u.heap.size := by
  rcases hx with ⟨h0, o, e⟩ | ⟨h0, o, e⟩ | ⟨h0, o, e⟩
  · obtain ⟨g2, o2, e2, hg, _⟩ := h.k h0
    rw [e] at e2; cases e2; exact hg
  · obtain ⟨g2, o2, e2, hg, _⟩ := h.v h0
    rw [e] at e2; cases e2; exact hg
  · obtain ⟨g2, o2, e2, hg, _⟩ := h.n h0
    rw [e] at e2; cases e2; exact hg
theorem CRS.same {u u' : World} {r : CR} (h : CRS u r) (hs : ∀ x, crB r x → u'.heap[x]? = u.heap[x]?) : CRS u' r := by
  refine ⟨fun h0 => ?_, fun h0 => ?_, fun h0 => ?_⟩
  · obtain ⟨g, o, e, hg, hc⟩ := h.k h0
    have q := hs g (.inl ⟨h0, o, e⟩)
    exact ⟨g, o, e, lt_same hg q, fun k hk => (World.cell?_of_block (a := ⟨g, o + k, none⟩) q).trans (hc k hk)⟩
  · obtain ⟨g, o, e, hg, hc⟩ := h.v h0
    have q := hs g (.inr (.inl ⟨h0, o, e⟩))
    exact ⟨g, o, e, lt_same hg q, fun k hk => (World.cell?_of_block (a := ⟨g, o + k, none⟩) q).trans (hc k hk)⟩
  · obtain ⟨g, o, e, hg, hc⟩ := h.n h0
    have q := hs g (.inr (.inr ⟨h0, o, e⟩))
    exact ⟨g, o, e, lt_same hg q, fun k hk => (World.cell?_of_block (a := ⟨g, o + k, none⟩) q).trans (hc k hk)⟩
theorem CRO.of {H : Nat → Prop} {r : CR} (h : CRO H r) {x : Nat} (hx : crB r x) : ¬ H x := by
  rcases hx with ⟨h0, o, e⟩ | ⟨h0, o, e⟩ | ⟨h0, o, e⟩
  · exact h.k x o h0 e
  · exact h.v x o h0 e
  · exact h.n x o h0 e
theorem crAt_app {L : List CR} {r : CR} {k : Nat} : crAt (L ++ [r]) k = if k < L.length then crAt L k else if k = L.length then r else CR.zero := by
  unfold crAt
  rw [List.getD_eq_getElem?_getD, List.getD_eq_getElem?_getD, List.getElem?_append]
  split
  · rfl
  · rename_i h
    by_cases h2 : k = L.length
    · rw [if_pos h2, h2, Nat.sub_self]; rfl
    · rw [if_neg h2, List.getElem?_eq_none (by simp; omega)]; rfl
def TnB (B : Nat) (A : Sys) (H : Nat → Prop) (w w' : World) : Prop := ∃ F', A.R w' F' ∧ Turn H w w' ∧ ∀ x, F' x → H x ∨ B ≤ x
def pushS (S : MS) (c : Cl) : MS := { S with calls := S.calls ++ [c] }
theorem sysX_push {w : World} {g : Nat} {S : MS} {H : Nat → Prop} (h : (sysX g S).R w H) (hgo : S.calls.length ≤ S.steps) : ∃ (A0 : Option Addr) (n0 c0 : Nat) (L : List CR), (∀ u, Below w.heap.size w u → u.cell? ⟨g, 31, none⟩ = some (.slice A0 n0 c0) ∧ u.frozen? ⟨g, 31, none⟩ = false ∧ u.ownsRow 0 59 6 (.slice A0 n0 c0) S.calls.length (crC L)) ∧ n0 = S.calls.length ∧
    ∀ (u w4 : World) (r : CR) (g4 c4 B : Nat), Below w.heap.size w u → r.ok → CRS w r → CRO H r → (∀ x, crB r x → B ≤ x) → B ≤ w.heap.size → w4.ownsRow 0 59 6 (.slice (some ⟨g4, 0, none⟩) (S.calls.length + 1) c4) (S.calls.length + 1) (crC L ++ cCR r) → u.grownBy w4 (Value.slice A0 n0 c0).ownBlock → ((Value.slice A0 n0 c0).ownBlock = some g4 ∨ g4 = u.heap.size) →
      TnB B (sysX g (pushS S r.c)) H w (w4.setCell ⟨g, 31, none⟩ (.slice (some ⟨g4, 0, none⟩) (S.calls.length + 1) c4)) ∧ w4.cell? ⟨g, 31, none⟩ = some (.slice A0 n0 c0) ∧ w4.frozen? ⟨g, 31, none⟩ = false := by
  have h0 := h
  obtain ⟨hok, A, hA, F1, F2, h1, ⟨F3, F4, h3, ⟨F5, F6, h5, h6, h7, h8⟩, h9, h10⟩, h11, h12⟩ := h
  obtain ⟨A0, c0, hvc, hcc1, hcc2⟩ := own_slice h6.1
  have hH : ∀ x, H x → x < w.heap.size := fun x hx => (sysX g S).lt h0 hx
  have hgH : H g := (h12 g).2 (.inl ((h1.2 g).2 rfl))
  have hbk : ∀ u, Below w.heap.size w u → Blk g (xC A S).toArray 80 u := fun u b => h1.1.after b
  have f6 : ∀ x, F6 x ↔ (Value.slice A0 S.calls.length c0).ownBlock = some x := fun x => by rw [h6.2 x, hvc]
  have gF6 : ¬ F6 g := fun hx => h11 g ((h1.2 g).2 rfl) ((h10 g).2 (.inr ((h8 g).2 (.inr hx))))
  refine ⟨A0, S.calls.length, c0, A.L, fun u b => ⟨?_, Blk.free (hbk u b) 31, ?_⟩, rfl, ?_⟩
  · rw [← hvc]; exact (xc_tail (hbk u b) hok.n).2.2.2.2
  · rw [← hvc]; exact own_after h6.1 b
  intro u w4 r g4 c4 B b hr hrs hro hrB hBw hown hgrow hat
  have hgl : g < u.heap.size := Nat.lt_of_lt_of_le (hH g hgH) b.size
  have hgne : some g ≠ (Value.slice A0 S.calls.length c0).ownBlock := fun e => gF6 ((f6 g).2 e.symm)
  have hb4 : Blk g (xC A S).toArray 80 w4 := (hbk u b).same (hgrow.block g hgl hgne)
  have g4ne : g4 ≠ g := by
    rcases hat with c | c
    · intro e; exact gF6 ((f6 g).2 (by rw [c, e]))
    · omega
  have w4sz : w.heap.size ≤ w4.heap.size := Nat.le_trans b.size hgrow.size
  have hsz : (w4.setCell ⟨g, 31, none⟩ (.slice (some ⟨g4, 0, none⟩) (S.calls.length + 1) c4)).heap.size = w4.heap.size := setCell_size _ _ _
  refine ⟨?_, ?_, Blk.free hb4 31⟩
  rotate_left 1
  · rw [← hvc]; exact (xc_tail hb4 hok.n).2.2.2.2
  have keep : ∀ x, x < w.heap.size → x ≠ g → ¬ F6 x → (w4.setCell ⟨g, 31, none⟩ (.slice (some ⟨g4, 0, none⟩) (S.calls.length + 1) c4)).heap[x]? = w.heap[x]? := fun x hx hne h6x =>
    (Below.heap_setCell _ _ _ _ hne).trans ((hgrow.block x (Nat.lt_of_lt_of_le hx b.size) (fun e => h6x ((f6 x).2 e.symm))).trans (b.block x hx))
  have n1 : ∀ x, F2 x → x ≠ g := fun x hx e => h11 g ((h1.2 g).2 rfl) (by rw [← e]; exact hx)
  have h36 : ∀ x, F3 x → ¬ F6 x := fun x hx c => h9 x hx ((h8 x).2 (.inr c))
  have k3 := Sys.keep (sysT A.gt A.gm S.T S.M) h3 (fun x hx => keep x (Sys.lt (sysT A.gt A.gm S.T S.M) h3 hx) (n1 x ((h10 x).2 (.inl hx))) (h36 x hx))
  have k5 := Sys.keep (sysL (XLies A S)) h5 (fun x hx => keep x (Sys.lt (sysL (XLies A S)) h5 hx) (n1 x ((h10 x).2 (.inr ((h8 x).2 (.inl hx))))) (h7 x hx))
  have crlt : ∀ x, crB r x → x < w.heap.size := fun x hx => hrs.lt hx
  have crH : ∀ x, crB r x → ¬ H x := fun x hx => hro.of hx
  have F6H : ∀ x, F6 x → H x := fun x hx => (h12 x).2 (.inr ((h10 x).2 (.inr ((h8 x).2 (.inr hx)))))
  have F5H : ∀ x, F5 x → H x := fun x hx => (h12 x).2 (.inr ((h10 x).2 (.inr ((h8 x).2 (.inl hx)))))
  have F3H : ∀ x, F3 x → H x := fun x hx => (h12 x).2 (.inr ((h10 x).2 (.inl hx)))
  have kr : CRS (w4.setCell ⟨g, 31, none⟩ (.slice (some ⟨g4, 0, none⟩) (S.calls.length + 1) c4)) r := hrs.same fun x hx => keep x (crlt x hx) (fun e => crH x hx (by rw [e]; exact hgH)) (fun c => crH x hx (F6H x c))
  have hLl : A.L.length = S.calls.length := by rw [← hA.L, List.length_map]
  -- the row, new
  have hown' := own_same (w' := w4.setCell ⟨g, 31, none⟩ (.slice (some ⟨g4, 0, none⟩) (S.calls.length + 1) c4)) hown (fun k hk => Below.heap_setCell _ _ _ _ (fun e => by
    have e3 : g4 = k := by simpa [Value.ownBlock] using hk
    exact g4ne (by rw [e3]; exact e)))
  have g4w : ∀ x, x < w.heap.size → x = g4 → F6 x := fun x hx e => by
    rcases hat with c | c
    · exact (f6 x).2 (by rw [c, e])
    · have := b.size; omega
  obtain ⟨A5, c5, hA5, hc5a, hc5b⟩ := own_slice hown
  injection hA5 with q1 q2 q3
  subst q3
  refine ⟨fun x => x = g ∨ F3 x ∨ (F5 x ∨ crB r x) ∨ x = g4, ⟨⟨hok.l, hok.chk, hok.at_, hok.n, hok.r, hok.D, hok.dr, ⟨by show (S.calls ++ [r.c]).length ≤ S.steps + 1; rw [List.length_append, List.length_singleton]; omega, hok.steps.2⟩⟩,
    { A with vc := .slice (some ⟨g4, 0, none⟩) (S.calls.length + 1) c4, L := A.L ++ [r] }, ⟨hA.l, hA.d, hA.r, ?_, by show (A.L ++ [r]).map (·.c) = S.calls ++ [r.c]; rw [List.map_append, hA.L]; rfl⟩,
    fun x => x = g, fun x => F3 x ∨ (F5 x ∨ crB r x) ∨ x = g4, ⟨?_, fun x => Iff.rfl⟩, ⟨F3, fun x => (F5 x ∨ crB r x) ∨ x = g4, k3, ⟨fun x => F5 x ∨ crB r x, fun x => x = g4, ⟨?_, ?_⟩, ⟨?_, fun x => ?_⟩, ?_, fun x => Iff.rfl⟩, ?_, fun x => Iff.rfl⟩, ?_, fun x => Iff.rfl⟩, ?_, ?_⟩
  · intro k hk
    show (crAt (A.L ++ [r]) k).ok
    have hk' : k < (A.L ++ [r]).length := hk
    rw [List.length_append, List.length_singleton] at hk'
    rw [crAt_app]
    split
    · exact hA.c k (by assumption)
    · rw [if_pos (by omega)]; exact hr
  · have q := blk_list hb4 31 (.slice (some ⟨g4, 0, none⟩) (S.calls.length + 1) c4)
    have e := xC_tail A S hok.n 4 (.slice (some ⟨g4, 0, none⟩) (S.calls.length + 1) c4)
    rw [show 27 + 4 = 31 from rfl] at e
    rw [e] at q
    exact q
  · intro x hx
    rcases hx with hx | hx
    · exact k5.1 x hx
    · rw [hsz]; exact Nat.lt_of_lt_of_le (crlt x hx) w4sz
  · intro wx hwx
    have q := k5.2 wx (fun x hx => hwx x (.inl hx))
    have qr := kr.same (fun x hx => hwx x (.inr hx))
    refine ⟨q.l, q.d, q.r, fun k hk => ?_⟩
    have hk' : k < (A.L ++ [r]).length := hk
    rw [List.length_append, List.length_singleton] at hk'
    show CRS wx (crAt (A.L ++ [r]) k)
    rw [crAt_app]
    split
    · exact q.c k (by assumption)
    · rw [if_pos (by omega)]; exact qr
  · show World.ownsRow _ 0 _ 6 (.slice (some ⟨g4, 0, none⟩) (S.calls.length + 1) c4) (S.calls ++ [r.c]).length (crC (A.L ++ [r]))
    rw [List.length_append, List.length_singleton, crC_app, show crC [r] = cCR r by simp [crC]]
    exact hown'
  · show x = g4 ↔ Value.ownBlock (.slice (some ⟨g4, 0, none⟩) (S.calls.length + 1) c4) = some x
    simp [Value.ownBlock, eq_comm]
  · intro x hx e
    rcases hx with hx | hx
    · exact h7 x hx (g4w x (Sys.lt (sysL (XLies A S)) h5 hx) e)
    · exact crH x hx (F6H x (g4w x (crlt x hx) e))
  · intro x hx c
    rcases c with (c | c) | c
    · exact h9 x hx ((h8 x).2 (.inl c))
    · exact crH x c (F3H x hx)
    · exact h36 x hx (g4w x (Sys.lt (sysT A.gt A.gm S.T S.M) h3 hx) c)
  · intro x hx c
    rcases c with c | (c | c) | c
    · exact n1 x ((h10 x).2 (.inl c)) hx
    · exact n1 x ((h10 x).2 (.inr ((h8 x).2 (.inl c)))) hx
    · exact crH x c (by rw [hx]; exact hgH)
    · exact g4ne (by rw [← c, hx])
  · have t1 : Turn H w w4 := by
      have q := (Turn.of_below (F := H) b).grown hgrow (fun k hk => .inl (F6H k ((f6 k).2 hk)))
      exact q
    exact Turn.setCell (F := H) t1 (p := ⟨g, 31, none⟩) (.inl hgH) _
  · intro x hx
    rcases hx with c | c | (c | c) | c
    · exact .inl (by rw [c]; exact hgH)
    · exact .inl (F3H x c)
    · exact .inl (F5H x c)
    · exact .inr (hrB x c)
    · rcases hat with d | d
      · exact .inl (F6H x ((f6 x).2 (by rw [d, c])))
      · have := b.size
        exact .inr (by omega)
theorem setCells_ten (w : World) (g : Nat) (l : List Value) (t : TypeId) (h : Blk g l.toArray t w) : ∀ (vs : List Value) (o : Nat) (w : World) (l : List Value), Blk g l.toArray t w → Blk g (putN l o vs).toArray t (w.setCells g o vs) := by
  intro vs
  induction vs with
  | nil => intro o w l h; exact h
  | cons v vs ih =>
    intro o w l h
    exact ih (o + 1) _ _ (blk_list h o v)
theorem run_clear_regs (w : World) (g : Nat) (l : List Value) (h : Blk g l.toArray 80 w) (hl : l.length = 32) (ty : TypeId) (c : Nat) :
    (Builtin.clear_ #[181] ty #[.slice (some ⟨g, 7, none⟩) 5 c]).run Tryz.prog w = .ok (.tuple #[]) (w.setCells g 7 [.int .u64 0, .bool false, .int .u64 0, .bool false, .int .u64 0, .bool false, .int .u64 0, .bool false, .int .u64 0, .bool false]) := by
  have hst := run_storeCells_cells (P := Tryz.prog) g 7 [.int .u64 0, .bool false, .int .u64 0, .bool false, .int .u64 0, .bool false, .int .u64 0, .bool false, .int .u64 0, .bool false] 0 w
    (fun j hj => by
      have hj' : j < 10 := by simpa using hj
      rw [Blk.cell h, List.getElem?_toArray, List.getElem?_eq_getElem (by omega)]
      rfl) (fun j hj => Blk.free h _) (fun v hv => by
      simp only [List.mem_cons, List.not_mem_nil, or_false] at hv
      rcases hv with rfl | rfl | rfl | rfl | rfl | rfl | rfl | rfl | rfl | rfl <;> rfl)
  simp only [Nat.add_zero] at hst
  have hz : ∀ w, (zeroValue 77).run Tryz.prog w = .ok (.agg #[.int .u64 0, .bool false]) w := fun w => rfl
  have e : (Builtin.zeroCells (Value.agg #[.int .u64 0, .bool false]).cells 5).toList = [.int .u64 0, .bool false, .int .u64 0, .bool false, .int .u64 0, .bool false, .int .u64 0, .bool false, .int .u64 0, .bool false] := by kernel_rfl
  simp [Builtin.clear_, run_underlying Tryz.underlying181, hz, e, hst]
theorem xC_left5 (A : XA) (S : MS) (hn : S.r.length = 11) : putN (xC A S) 7 [.int .u64 0, .bool false, .int .u64 0, .bool false, .int .u64 0, .bool false, .int .u64 0, .bool false, .int .u64 0, .bool false] = xC A { S with r := left5 S.r } := by
  have e1 := xC_reg A S hn 1 (by omega) 0 false
  have e2 := xC_reg A { S with r := S.r.set 1 (0, false) } (by simp [hn]) 2 (by omega) 0 false
  have e3 := xC_reg A { S with r := (S.r.set 1 (0, false)).set 2 (0, false) } (by simp [hn]) 3 (by omega) 0 false
  have e4 := xC_reg A { S with r := ((S.r.set 1 (0, false)).set 2 (0, false)).set 3 (0, false) } (by simp [hn]) 4 (by omega) 0 false
  have e5 := xC_reg A { S with r := (((S.r.set 1 (0, false)).set 2 (0, false)).set 3 (0, false)).set 4 (0, false) } (by simp [hn]) 5 (by omega) 0 false
  simp only [putN_cons, putN]
  rw [show ((xC A S).set 7 (.int .u64 0)).set (7 + 1) (.bool false) = _ from e1]
  rw [show ((xC A { S with r := S.r.set 1 (0, false) }).set (7 + 1 + 1) (.int .u64 0)).set (7 + 1 + 1 + 1) (.bool false) = _ from e2]
  rw [show ((xC A { S with r := (S.r.set 1 (0, false)).set 2 (0, false) }).set (7 + 1 + 1 + 1 + 1) (.int .u64 0)).set (7 + 1 + 1 + 1 + 1 + 1) (.bool false) = _ from e3]
  rw [show ((xC A { S with r := ((S.r.set 1 (0, false)).set 2 (0, false)).set 3 (0, false) }).set (7 + 1 + 1 + 1 + 1 + 1 + 1) (.int .u64 0)).set (7 + 1 + 1 + 1 + 1 + 1 + 1 + 1) (.bool false) = _ from e4]
  exact e5
theorem left5_ok {S : MS} (h : S.ok) : ({ S with r := left5 S.r } : MS).ok := by
  have h1 := setR_ok h 1 (by omega) 0 false (by omega)
  have h2 := setR_ok h1 2 (by omega) 0 false (by omega)
  have h3 := setR_ok h2 3 (by omega) 0 false (by omega)
  have h4 := setR_ok h3 4 (by omega) 0 false (by omega)
  exact setR_ok h4 5 (by omega) 0 false (by omega)
theorem turn_cells (w : World) (g : Nat) : ∀ (vs : List Value) (o : Nat) (w' : World), Turn (fun x => x = g) w w' → Turn (fun x => x = g) w (w'.setCells g o vs) := by
  intro vs
  induction vs with
  | nil => intro o w' h; exact h
  | cons v vs ih => intro o w' h; exact ih (o + 1) _ (Turn.setCell h (p := ⟨g, o, none⟩) (.inl rfl) v)
theorem sysX_clear {w : World} {g : Nat} {S : MS} {H : Nat → Prop} (h : (sysX g S).R w H) : (∀ ty c, (Builtin.clear_ #[181] ty #[.slice (some ⟨g, 7, none⟩) 5 c]).run Tryz.prog w = .ok (.tuple #[]) (w.setCells g 7 [.int .u64 0, .bool false, .int .u64 0, .bool false, .int .u64 0, .bool false, .int .u64 0, .bool false, .int .u64 0, .bool false])) ∧
    Tn (sysX g { S with r := left5 S.r }) H w (w.setCells g 7 [.int .u64 0, .bool false, .int .u64 0, .bool false, .int .u64 0, .bool false, .int .u64 0, .bool false, .int .u64 0, .bool false]) := by
  have hok := sysX_ok h
  obtain ⟨A, hA, hb, -, -⟩ := sysX_blk h
  refine ⟨fun ty c => run_clear_regs w g _ hb (xC_len A S hok.n) ty c, sysX_blkT h (left5_ok hok) rfl rfl rfl rfl rfl rfl (fun A hb => ?_) (turn_cells w g _ 7 w (Turn.refl _ _))⟩
  have q := setCells_ten w g _ _ hb [.int .u64 0, .bool false, .int .u64 0, .bool false, .int .u64 0, .bool false, .int .u64 0, .bool false, .int .u64 0, .bool false] 7 w _ hb
  rwa [xC_left5 A S hok.n] at q
theorem hOk_ways {i : Int} (h : hOk i = true) : i = 1 ∨ i = 2 ∨ i = 3 ∨ i = 5 ∨ i = 6 ∨ i = 7 ∨ i = 8 := by
  rcases hS_ways i with h1 | h1 | h1 | h1 | h1 | h1 | h1 | h1
  · exact .inl h1
  · exact .inr (.inl h1)
  · exact .inr (.inr (.inl h1))
  · exact .inr (.inr (.inr (.inl h1)))
  · exact .inr (.inr (.inr (.inr (.inl h1))))
  · exact .inr (.inr (.inr (.inr (.inr (.inl h1)))))
  · exact .inr (.inr (.inr (.inr (.inr (.inr h1)))))
  · rw [(hS_none h1).2] at h; cases h
theorem kd_of {i : Int} : KdOk (hS i).told := by
  have two : KdOk [1, 2] := ⟨by decide, fun j hj => by
    match j, hj with
    | 0, _ => exact ⟨.inl rfl, fun h => by rcases h with h | h <;> cases h⟩
    | 1, _ => exact ⟨.inr (.inl rfl), fun _ => ⟨by omega, rfl⟩⟩⟩
  have none_ : KdOk [] := ⟨by decide, fun j hj => absurd hj (by simp)⟩
  rcases hS_ways i with rfl | rfl | rfl | rfl | rfl | rfl | rfl | h
  · exact two
  · exact ⟨by decide, fun j hj => by
      match j, hj with
      | 0, _ => exact ⟨.inl rfl, fun h => by rcases h with h | h <;> cases h⟩
      | 1, _ => exact ⟨.inr (.inl rfl), fun _ => ⟨by omega, rfl⟩⟩
      | 2, _ => exact ⟨.inr (.inr (.inl rfl)), fun _ => ⟨by omega, rfl⟩⟩
      | 3, _ => exact ⟨.inr (.inr (.inr rfl)), fun h => by rcases h with h | h <;> cases h⟩⟩
  · exact two
  · exact none_
  · exact ⟨by decide, fun j hj => by
      match j, hj with
      | 0, _ => exact ⟨.inr (.inr (.inr rfl)), fun h => by rcases h with h | h <;> cases h⟩
      | 1, _ => exact ⟨.inr (.inr (.inr rfl)), fun h => by rcases h with h | h <;> cases h⟩⟩
  · exact none_
  · exact none_
  · rw [(hS_none h).1]; exact none_
theorem tolds_nums (S : MS) : ∀ (ks : List Int) (j : Nat) (c : Cl), (mTolds S j ks c).2 = 0 → c.n.length + (ks.filter (· == 4)).length ≤ (mTolds S j ks c).1.n.length := by
  intro ks
  induction ks with
  | nil => intro j c _; simp [mTolds]
  | cons k ks ih =>
    intro j c h
    unfold mTolds at h ⊢
    cases he : ((mTel1 S c k ((j : Int) + 1)).2 == 0)
    · rw [he, if_neg Bool.false_ne_true] at h
      simp at he
      exact absurd h he
    · rw [he, if_pos rfl] at h
      rw [if_pos rfl]
      have q := ih _ _ h
      have he' : (mTel1 S c k ((j : Int) + 1)).2 = 0 := by simpa using he
      have step : c.n.length + (if k == 4 then 1 else 0) ≤ (mTel1 S c k ((j : Int) + 1)).1.n.length := by
        unfold mTel1 at he' ⊢
        cases hrd : ((rd S ((j : Int) + 1)).2 == 0)
        · rw [hrd, if_neg Bool.false_ne_true] at he'
          simp at hrd
          exact absurd he' hrd
        · rw [if_pos rfl]
          unfold mTell
          by_cases k1 : (k == 1) = true
          · have e4 : (k == 4) = false := by simp at k1 ⊢; omega
            rw [if_pos k1, e4, if_neg Bool.false_ne_true]
            by_cases hq : (S.D.length : Int) ≤ ((rd S ((j : Int) + 1)).1 - wordI 0) % 18446744073709551616
            · rw [if_pos hq]; exact Nat.le_refl _
            · rw [if_neg hq]; exact Nat.le_refl _
          · rw [if_neg k1]
            by_cases k2 : (k == 2) = true
            · have e4 : (k == 4) = false := by simp at k2 ⊢; omega
              rw [if_pos k2, e4]; simp
            · rw [if_neg k2]
              by_cases k3 : (k == 3) = true
              · have e4 : (k == 4) = false := by simp at k3 ⊢; omega
                rw [if_pos k3, e4]; simp
              · rw [if_neg k3]
                by_cases k4 : (k == 4) = true
                · rw [if_pos k4, if_pos k4]; simp
                · rw [if_neg k4, if_neg k4]; simp
      have e : ((k :: ks).filter (· == 4)).length = (if k == 4 then 1 else 0) + (ks.filter (· == 4)).length := by
        rw [List.filter_cons]
        split <;> simp <;> omega
      rw [e]
      omega
theorem hCut_rng {n m : Int} (hn : 0 ≤ n ∧ n ≤ 18446744073709551615) (hm : 0 ≤ m ∧ m ≤ 18446744073709551615) : 0 ≤ hCut n m ∧ hCut n m ≤ 18446744073709551615 := by
  unfold hCut
  split
  · exact hn
  · have h1 := Int.emod_nonneg n (b := m + 1) (by omega)
    have h2 := Int.emod_lt_of_pos n (b := m + 1) (by omega)
    omega
theorem hDr_rng {id : Int} {l : List Int} (h : OkN l) : 0 ≤ (hDr id l).1 ∧ (hDr id l).1 ≤ 18446744073709551615 := by
  unfold hDr
  split
  · cases l with
    | nil => exact ⟨by show (0 : Int) ≤ 0; omega, by show (0 : Int) ≤ _; omega⟩
    | cons n r => exact hCut_rng (by have := h 0 (by simp); simpa [bAt] using this) (hS_most id)
  · exact ⟨by show (0 : Int) ≤ 0; omega, by show (0 : Int) ≤ _; omega⟩
theorem tLook_rng (T : TT) (i : Int) (key : List Int) : 0 ≤ (tLook T i key).1 ∧ (tLook T i key).1 ≤ 18446744073709551615 := by
  unfold tLook
  split
  · split
    · exact ⟨by show (0 : Int) ≤ 0; omega, by show (0 : Int) ≤ _; omega⟩
    · show 0 ≤ atI _ _ ∧ atI _ _ ≤ _
      unfold atI
      omega
  · exact ⟨by show (0 : Int) ≤ 0; omega, by show (0 : Int) ≤ _; omega⟩
theorem minusI_rng {n : Int} (h : 1 ≤ n ∧ n ≤ 100) : 0 ≤ minusI n ∧ minusI n ≤ 18446744073709551615 := by unfold minusI; omega
theorem tPut_rng (T : TT) (M : PM) (i : Int) (key val : List Int) (fl : Int) : 0 ≤ (tPut T M i key val fl).n ∧ (tPut T M i key val fl).n ≤ 18446744073709551615 := by
  unfold tPut
  have z : 0 ≤ (0 : Int) ∧ (0 : Int) ≤ 18446744073709551615 := by omega
  repeat' (first | exact z | exact minusI_rng (by omega) | split | dsimp only)
theorem tDrop_rng (T : TT) (i : Int) (key : List Int) : 0 ≤ (tDrop T i key).2.1 ∧ (tDrop T i key).2.1 ≤ 18446744073709551615 := by
  unfold tDrop
  have z : 0 ≤ (0 : Int) ∧ (0 : Int) ≤ 18446744073709551615 := by omega
  repeat' (first | exact z | exact minusI_rng (by omega) | split | dsimp only)
theorem tells_rng {S : MS} (h : S.ok) (c : Cl) : 0 ≤ (mTells S c).n ∧ (mTells S c).n ≤ 18446744073709551615 := by
  have z : 0 ≤ (0 : Int) ∧ (0 : Int) ≤ 18446744073709551615 := by omega
  unfold mTells
  split
  · exact tLook_rng _ _ _
  · split
    · exact tPut_rng _ _ _ _ _ _
    · split
      · exact tDrop_rng _ _ _
      · split
        · exact z
        · split
          · exact hDr_rng (okN_take h.dr.1 1)
          · exact z
end Go.Proofs.YtlbhffdpklbhfaaGreat
