/-
  Texts, one behind the other: Ref09q, Tab13.
  Conditions: those that each theorem states.
-/
import Derived.Deep.RegionHeld
import Derived.Deep.RegionHeld3
import Derived.Deep.DeepCutAuto
import Derived.Maps.AppendAt
import Derived.Deep.RegionLaw
import Derived.LoopTactic
import Derived.Laws.AppendOwn
import Derived.Lib.AppendZeros
import Derived.Test.YtlbhffdpklbhfaaGreatPz6
import Derived.Test.YtlbhffdpklbhfaaGreatPz38
import Derived.Test.YtlbhffdpklbhfaaGreatPz1
namespace Go.Proofs.YtlbhffdpklbhfaaGreat
open Go.RowKit
set_option maxRecDepth 100000
set_option linter.unusedVariables false
set_option linter.unusedSimpArgs false
def nums (d : Df) : Nat := if d.hash then 0 else d.max.toNat
theorem nums_at {d : Df} (h : d.good = true) : nums d ≤ 16 ∧ (d.hash = true → nums d = 0) ∧ (d.hash = false → (nums d : Int) = d.max) := by
  have q := good_at h
  unfold nums
  cases hh : d.hash
  · exact ⟨by rw [if_neg Bool.false_ne_true]; omega, by simp, fun _ => by rw [if_neg Bool.false_ne_true]; omega⟩
  · exact ⟨by rw [if_pos rfl]; omega, fun _ => if_pos rfl, fun e => by cases e⟩
theorem ok_nums {d : Df} (h : d.good = true) : TM.ok ⟨d, numL (nums d), nums d⟩ := by
  cases hh : d.hash
  · have e : nums d = d.max.toNat := by unfold nums; rw [hh, if_neg Bool.false_ne_true]
    rw [e]; exact ok_num h hh
  · have e : nums d = 0 := by unfold nums; rw [hh, if_pos rfl]
    rw [e]; exact ok_hash h
theorem new_next {l : List Df} {j : Nat} {M M2 : PM} {T : TT} {d : Df} (h : j < l.length) (hd : l.getD j Df.zero = d) (hs : tSlots M j d.val.toNat 0 (nums d) = (M2, true)) : tNewG j (l.drop j) M T = tNewG (j + 1) (l.drop (j + 1)) M2 (T ++ [⟨d, numL (nums d), nums d⟩]) := by
  unfold nums at *
  cases hh : d.hash
  · rw [hh, if_neg Bool.false_ne_true] at hs
    rw [if_neg Bool.false_ne_true]
    rw [tNewG_num h (by rw [hd]; exact hh), hd, hs, if_pos rfl]
  · rw [hh, if_pos rfl] at hs
    rw [if_pos rfl]
    rw [tNewG_hash h (by rw [hd]; exact hh), hd]
    have : M = M2 := congrArg Prod.fst hs
    rw [this]
    rfl
theorem new_stop {l : List Df} {j : Nat} {M M2 : PM} {T : TT} {d : Df} (h : j < l.length) (hd : l.getD j Df.zero = d) (hh : d.hash = false) (hs : tSlots M j d.val.toNat 0 (nums d) = (M2, false)) : tNewG j (l.drop j) M T = (M2, none) := by
  unfold nums at hs
  rw [hh, if_neg Bool.false_ne_true] at hs
  rw [tNewG_num h (by rw [hd]; exact hh), hd, hs, if_neg Bool.false_ne_true]
def zR : TR := ⟨TM.zero, .map none⟩
def NewQ (gm : Nat) (G : Nat → Prop) (r : PM × Option TT) (w : World) (e : Ending) (w' : World) : Prop :=
  ∃ G', Turn G w w' ∧ (∀ x, G' x → G x ∨ w.heap.size ≤ x) ∧
    match r.2 with
    | none => e = .returned (.tuple #[.pointer none, .int .i64 1]) ∧ RepP w' gm r.1 G'
    | some T => ∃ gt F', e = .returned (.tuple #[.pointer (some ⟨gt, 0, none⟩), .int .i64 0]) ∧ RepD w' gt gm T r.1 F' G' ∧ ∀ x, F' x → w.heap.size ≤ x
structure NewI (l : List Df) (M0 : PM) (j : Nat) (L : List TR) (M : PM) : Prop where
  len : L.length = l.length
  done : ∀ i, i < j → i < L.length → (trAt L i).v ≠ .map none
  rest : ∀ i, j ≤ i → i < L.length → trAt L i = zR
  ok : TFull (trM (L.take j))
  all : tNewG j (l.drop j) M (trM (L.take j)) = tNewG 0 l M0 []
  few : M.length ≤ M0.length + 16 * j
theorem newI_start (l : List Df) (M0 : PM) : NewI l M0 0 (List.replicate l.length zR) M0 := by
  refine ⟨by simp, fun i h => by omega, fun i _ h => ?_, ⟨fun i h => absurd h (by simp [trM]), fun i h => absurd h (by simp [trM])⟩, rfl, by omega⟩
  unfold trAt
  rw [List.length_replicate] at h
  rw [List.getD_eq_getElem?_getD, List.getElem?_replicate, if_pos h]
  rfl
theorem tSlots_len (M : PM) (i v k n : Nat) : (tSlots M i v k n).1.length ≤ M.length + n := by
  induction n generalizing M k with
  | zero => exact Nat.le_refl _
  | succ n ih =>
    unfold tSlots
    have h1 := pMake_more M (tArea i k) (List.replicate v 0) false false
    split
    · have := ih (pMake M (tArea i k) (List.replicate v 0) false false).1 (k + 1)
      omega
    · simp only
      omega
theorem take_set {L : List TR} {j : Nat} (hj : j < L.length) (r : TR) : (L.set j r).take (j + 1) = L.take j ++ [r] := by
  rw [List.take_add_one, List.take_set_of_le (Nat.le_refl _), List.getElem?_set_self hj]
  rfl
theorem NewI.next {l : List Df} {M0 M M2 : PM} {j mb : Nat} {L : List TR} (h : NewI l M0 j L M) (hj : j < l.length) (hg : (dAt l j).good = true) (hs : tSlots M j (dAt l j).val.toNat 0 (nums (dAt l j)) = (M2, true)) : NewI l M0 (j + 1) (L.set j (numR (dAt l j) (nums (dAt l j)) mb)) M2 := by
  obtain ⟨h1, h2, h3, h4, h5, h6⟩ := h
  have hjL : j < L.length := by omega
  have hk := ok_nums hg
  have hT : trM ((L.set j (numR (dAt l j) (nums (dAt l j)) mb)).take (j + 1)) = trM (L.take j) ++ [⟨dAt l j, numL (nums (dAt l j)), nums (dAt l j)⟩] := by
    rw [take_set hjL]
    simp [trM, numR]
  have hlt : (trM (L.take j)).length = j := by rw [trM_len, List.length_take]; omega
  obtain ⟨n1, n2, n3⟩ := nums_at hg
  refine ⟨by rw [List.length_set]; exact h1, fun i hi hiL => ?_, fun i hi hiL => ?_, ⟨fun i hi => ?_, fun i hi hh => ?_⟩, ?_, ?_⟩
  · rw [trAt_set hjL]
    by_cases e : i = j
    · rw [if_pos e]; simp [numR]
    · rw [if_neg e]; exact h2 i (by omega) (by rw [List.length_set] at hiL; exact hiL)
  · rw [trAt_set hjL, if_neg (by omega)]
    exact h3 i (by omega) (by rw [List.length_set] at hiL; exact hiL)
  · rw [hT] at hi ⊢
    rw [List.length_append, hlt, List.length_singleton] at hi
    rw [mt_app, hlt]
    by_cases e : i < j
    · rw [if_pos e]; exact h4.ok i (by rw [hlt]; exact e)
    · rw [if_neg e, if_pos (by omega)]; exact hk
  · rw [hT] at hi hh ⊢
    rw [List.length_append, hlt, List.length_singleton] at hi
    rw [mt_app, hlt] at hh ⊢
    by_cases e : i < j
    · rw [if_pos e] at hh ⊢; exact h4.full i (by rw [hlt]; exact e) hh
    · rw [if_neg e, if_pos (by omega)] at hh ⊢
      simp only at hh ⊢
      rw [numL_len]
      exact n3 hh
  · rw [hT, ← h5]
    exact (new_next hj rfl hs).symm
  · have := tSlots_len M j (dAt l j).val.toNat 0 (nums (dAt l j))
    rw [hs] at this
    simp only at this
    omega
theorem NewI.end_ {l : List Df} {M0 M : PM} {L : List TR} (h : NewI l M0 l.length L M) (hr : tRight l = true) : tNew M0 l = (M, some (trM L)) ∧ TFull (trM L) ∧ ∀ i, i < L.length → (trAt L i).v ≠ .map none := by
  have e : L.take l.length = L := List.take_of_length_le (by rw [h.len]; exact Nat.le_refl _)
  refine ⟨?_, by have := h.ok; rw [e] at this; exact this, fun i hi => h.done i (by rw [← h.len]; exact hi) hi⟩
  unfold tNew
  rw [hr, if_pos rfl, ← h.all, e]
  exact tNewG_end (Nat.le_refl _)
theorem trC_set6 {L : List TR} {k : Nat} (hk : k < L.length) (r : TR) : trC (L.set k r) = ((((((trC L).set (k * 6) (.bool r.m.d.hash)).set (k * 6 + 1) (.int .i64 r.m.d.key)).set (k * 6 + 2) (.int .i64 r.m.d.val)).set (k * 6 + 3) (.int .i64 r.m.d.max)).set (k * 6 + 4) r.v).set (k * 6 + 5) (.int .i64 (r.m.made : Int)) := by
  apply List.ext_getElem?
  intro j
  by_cases hj : j < L.length * 6
  · have e1 : j = (j / 6) * 6 + j % 6 := by omega
    have h1 := trC_at (L.set k r) (j / 6) (j % 6) (by rw [List.length_set]; omega) (by omega)
    have h2 := trC_at L (j / 6) (j % 6) (by omega) (by omega)
    rw [← e1] at h1 h2
    rw [h1, trAt_set hk]
    simp only [List.getElem?_set, List.length_set, trC_len]
    by_cases hq : j / 6 = k
    · rw [if_pos hq]
      have : j % 6 = 0 ∨ j % 6 = 1 ∨ j % 6 = 2 ∨ j % 6 = 3 ∨ j % 6 = 4 ∨ j % 6 = 5 := by omega
      rcases this with c | c | c | c | c | c
      · rw [if_neg (by omega), if_neg (by omega), if_neg (by omega), if_neg (by omega), if_neg (by omega), if_pos (by omega), if_pos (by omega), c]; rfl
      · rw [if_neg (by omega), if_neg (by omega), if_neg (by omega), if_neg (by omega), if_pos (by omega), if_pos (by omega), c]; rfl
      · rw [if_neg (by omega), if_neg (by omega), if_neg (by omega), if_pos (by omega), if_pos (by omega), c]; rfl
      · rw [if_neg (by omega), if_neg (by omega), if_pos (by omega), if_pos (by omega), c]; rfl
      · rw [if_neg (by omega), if_pos (by omega), if_pos (by omega), c]; rfl
      · rw [if_pos (by omega), if_pos (by omega), c]; rfl
    · rw [if_neg hq, if_neg (by omega), if_neg (by omega), if_neg (by omega), if_neg (by omega), if_neg (by omega), if_neg (by omega), h2]
  · rw [List.getElem?_eq_none (by rw [trC_len, List.length_set]; omega), List.getElem?_eq_none (by simp only [List.length_set, trC_len]; omega)]
def sixAt (w : World) (g o : Nat) (a b c d e f : Value) : World := (((((w.setCell ⟨g, o, none⟩ a).setCell ⟨g, o + 1, none⟩ b).setCell ⟨g, o + 2, none⟩ c).setCell ⟨g, o + 3, none⟩ d).setCell ⟨g, o + 4, none⟩ e).setCell ⟨g, o + 5, none⟩ f
theorem sixAt_heap (w : World) (g o : Nat) (a b c d e f : Value) {x : Nat} (hx : x ≠ g) : (sixAt w g o a b c d e f).heap[x]? = w.heap[x]? := by
  unfold sixAt
  rw [Below.heap_setCell _ _ _ _ hx, Below.heap_setCell _ _ _ _ hx, Below.heap_setCell _ _ _ _ hx, Below.heap_setCell _ _ _ _ hx, Below.heap_setCell _ _ _ _ hx, Below.heap_setCell _ _ _ _ hx]
theorem new_put {w u : World} {gt gm gl k c : Nat} {vl : Value} {L : List TR} {M : PM} {F G F' G' : Nat → Prop} {d : Df} (q : RawN w gt gm vl L M F G u F' G') (hk : k < L.length) (hz : trAt L k = zR) (hvl : vl = .slice (some ⟨gl, 0, none⟩) L.length c) :
    ∃ F2, RawN w gt gm vl (L.set k (numR d 0 u.heap.size)) M F G (sixAt (u.alloc (.map #[] 0)) gl (k * 6) (.bool d.hash) (.int .i64 d.key) (.int .i64 d.val) (.int .i64 d.max) (.map (some u.heap.size)) (.int .i64 0)) F2 G' := by
  have hgl : F' gl := q.rep.maps.foot1 (by rw [hvl]; rfl)
  have hgl1 := q.rep.maps.lt hgl
  have ba : Below u.heap.size u (u.alloc (.map #[] 0)) := below_alloc (Below.refl _ _) _
  have hst : ∀ x, x < u.heap.size → x ≠ gl → (sixAt (u.alloc (.map #[] 0)) gl (k * 6) (.bool d.hash) (.int .i64 d.key) (.int .i64 d.val) (.int .i64 d.max) (.map (some u.heap.size)) (.int .i64 0)).heap[x]? = u.heap[x]? := fun x hx hne => (sixAt_heap _ _ _ _ _ _ _ _ _ hne).trans (ba.block x hx)
  have hrow := (q.rep.maps.after ba).row
  rw [hvl] at hrow
  obtain ⟨F2, hR, hF2⟩ := q.rep.maps.put (r := numR d 0 u.heap.size) (u := sixAt (u.alloc (.map #[] 0)) gl (k * 6) (.bool d.hash) (.int .i64 d.key) (.int .i64 d.val) (.int .i64 d.max) (.map (some u.heap.size)) (.int .i64 0)) hk
    (fun x hx h1 _ => hst x (q.rep.maps.lt hx) (fun e => h1 (by rw [hvl, e]; rfl)))
    (by
      rw [trC_set6 hk, hvl]
      exact ((((((hrow.stored (k * 6) _).1.stored (k * 6 + 1) _).1.stored (k * 6 + 2) _).1.stored (k * 6 + 3) _).1.stored (k * 6 + 4) _).1.stored (k * 6 + 5) _).1)
    (by
      refine .inr ⟨u.heap.size, rfl, ?_⟩
      have hm := (mapIs_made u Tryz.prog 9).same (w' := sixAt (u.alloc (.map #[] 0)) gl (k * 6) (.bool d.hash) (.int .i64 d.key) (.int .i64 d.val) (.int .i64 d.max) (.map (some u.heap.size)) (.int .i64 0)) (sixAt_heap _ _ _ _ _ _ _ _ _ (by omega))
      refine hm.eq fun kl _ => ?_
      show strM (numL 0) kl = none
      unfold strM
      split <;> rfl)
    (.inr fun x hx => by cases hx; exact Nat.le_refl _)
  have hG1 : ∀ x, G' x → x < u.heap.size := fun x hx => q.rep.mem.lt hx
  have hws := q.turn.size
  refine ⟨F2, ⟨hR, ?_, fun x hx hg2 => ?_⟩, ?_, fun x hx => ?_, q.footG⟩
  · obtain ⟨vm, LM, e, hmm⟩ := q.rep.mem
    exact ⟨vm, LM, e, hmm.keep fun x hx => hst x (hmm.lt hx) (fun e => q.rep.apart gl hgl (by rw [← e]; exact hx))⟩
  · rcases hF2 x hx with c | c
    · exact q.rep.apart x c hg2
    · have := hG1 x hg2; omega
  · refine q.turn.trans (G := F') ?_ (fun x hx => ?_)
    · unfold sixAt
      have t0 : Turn F' u (u.alloc (.map #[] 0)) := Turn.of_below ba
      exact (((((t0.setCell (p := ⟨gl, k * 6, none⟩) (.inl hgl) _).setCell (p := ⟨gl, k * 6 + 1, none⟩) (.inl hgl) _).setCell (p := ⟨gl, k * 6 + 2, none⟩) (.inl hgl) _).setCell (p := ⟨gl, k * 6 + 3, none⟩) (.inl hgl) _).setCell (p := ⟨gl, k * 6 + 4, none⟩) (.inl hgl) _).setCell (p := ⟨gl, k * 6 + 5, none⟩) (.inl hgl) _
    · rcases q.footF x hx with c | c
      · exact .inl (.inl c)
      · exact .inr c
  · rcases hF2 x hx with c | c
    · exact q.footF x c
    · exact .inr (by omega)
theorem make_keyed (w : World) (n : Nat) (hn : n ≤ 1000) : (Instr.makeSlice 112 (.int .i64 (n : Int)) (.int .i64 (n : Int))).run Tryz.prog w = .ok (.slice (some ⟨w.heap.size, 0, none⟩) n n) (w.alloc (.cells (trC (List.replicate n zR)).toArray 117)) := by
  obtain ⟨i, hi, hz, h1, h2⟩ := info_parts (show (Tryz.prog.info? 117).map (fun i => (i.zero, i.size, i.bytes)) = some (some (.agg #[.bool false, .int .i64 0, .int .i64 0, .int .i64 0, .map none, .int .i64 0]), 6, 48) by kernel_rfl)
  have hr := run_make (P := Tryz.prog) w 112 117 i (.agg #[.bool false, .int .i64 0, .int .i64 0, .int .i64 0, .map none, .int .i64 0]) Tryz.underlying112 hi hz .i64 .i64 n n (by omega) (Int.le_refl _) (by rw [h2]; omega) (by omega)
  rw [hr, h1]
  simp only [Int.toNat_natCast]
  have e : madeCells (Value.agg #[.bool false, .int .i64 0, .int .i64 0, .int .i64 0, .map none, .int .i64 0]).cells (n * 6) = (trC (List.replicate n zR)).toArray := by
    apply Array.ext'
    rw [List.toList_toArray]
    apply List.ext_getElem?
    intro j
    by_cases hj : j < n * 6
    · have e1 : j = (j / 6) * 6 + j % 6 := by omega
      have h2 := trC_at (List.replicate n zR) (j / 6) (j % 6) (by simp; omega) (by omega)
      rw [← e1] at h2
      have h3 : trAt (List.replicate n zR) (j / 6) = zR := by
        unfold trAt
        rw [List.getD_eq_getElem?_getD, List.getElem?_replicate, if_pos (by omega)]
        rfl
      rw [h2, h3]
      unfold madeCells
      rw [Array.getElem?_toList, Array.getElem?_map, Array.getElem?_range, if_pos hj]
      have : j % 6 = 0 ∨ j % 6 = 1 ∨ j % 6 = 2 ∨ j % 6 = 3 ∨ j % 6 = 4 ∨ j % 6 = 5 := by omega
      show some ((#[Value.bool false, .int .i64 0, .int .i64 0, .int .i64 0, .map none, .int .i64 0] : Array Value)[j % 6]!) = _
      rcases this with c | c | c | c | c | c <;> rw [c] <;> rfl
    · rw [List.getElem?_eq_none (by rw [Array.length_toList, size_madeCells]; omega), List.getElem?_eq_none (by rw [trC_len]; simp; omega)]
  rw [e]
end Go.Proofs.YtlbhffdpklbhfaaGreat
