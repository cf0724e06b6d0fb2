/-
  Texts, one behind the other: StLay, StEq, St1, St2, St3, St4.
  Conditions: those that each theorem states.
-/
import Derived.Deep.MidRow
import Derived.ChangeKeysEq
import Derived.Test.YtdgckjkdimnpoaaMl6
import Derived.Deep.DeepCutAuto

namespace Go.Proofs.Ytdgckjkdimnpoaa
open Go Go.RowKit
set_option maxRecDepth 100000
set_option linter.unusedVariables false

abbrev stV (x : St) : Value := .agg (stC x)
abbrev rV (x : St) : Value := .agg (rC x)
abbrev zV (x : St) : Value := .agg (zC x)
def stB (g : Nat) (x : St) (w : World) : Prop := Blk g (stC x) 36 w
theorem stB.lt {g : Nat} {x : St} {w : World} (h : stB g x w) : g < w.heap.size := Blk.lt h
theorem stB.after {g : Nat} {x : St} {w w' : World} (h : stB g x w) (b : Below w.heap.size w w') : stB g x w' := Blk.after h b
theorem stB.new (w : World) (x : St) {g : Nat} (hg : g = w.heap.size) : stB g x (w.alloc (.cells (stC x) 36)) := Blk.new w _ _ hg
theorem stZ_cells : Try.zeroCells36 = stC stZ := by kernel_rfl

/-! ### Where its parts are -/
theorem Blk.range {g : Nat} {cs : Array Value} {t : TypeId} {w : World} (h : Blk g cs t w) (o : Nat) (l : List Value) (hl : ∀ j v, l[j]? = some v → cs[o + j]? = some v) : w.rangeAt g o l := fun j v hv => by
  rw [h.cell]; exact hl j v hv
theorem lt_of_some {l : List Value} {j : Nat} {v : Value} (h : l[j]? = some v) : j < l.length := (List.getElem?_eq_some_iff.mp h).1
theorem st_all {g : Nat} {x : St} {w : World} (h : stB g x w) : w.rangeAt g 0 (stL x) := Blk.range h 0 _ fun j v hv => by
  rw [stC_get, Nat.zero_add]; exact hv
theorem st_regs {g : Nat} {x : St} {w : World} (h : stB g x w) : w.rangeAt g 0 (rL x) := Blk.range h 0 _ fun j v hv => by
  have := lt_of_some hv
  rw [rL_len] at this
  rw [stC_get, Nat.zero_add, stL_lo x this, ← rL_get x this]; exact hv
theorem st_slots {g : Nat} {x : St} {w : World} (h : stB g x w) : w.rangeAt g 77 (zL x) := Blk.range h 77 _ fun j v hv => by
  have := lt_of_some hv
  rw [zL_len] at this
  rw [stC_get, stL_hi x (by omega) (by omega), show 77 + j - 77 = j by omega, ← zL_get x this]; exact hv
theorem st_reg {g : Nat} {x : St} {w : World} (h : stB g x w) {i o : Nat} (hi : i < 11) (ho : o = 7 * i) : w.rangeAt g o (vL (x.r i)) := Blk.range h o _ fun j v hv => by
  have := lt_of_some hv
  rw [vL_len] at this
  subst ho
  rw [stC_get, stL_lo x (by omega), show (7 * i + j) / 7 = i by omega, show (7 * i + j) % 7 = j by omega]; exact hv
theorem st_slot {g : Nat} {x : St} {w : World} (h : stB g x w) {i o : Nat} (hi : i < 64) (ho : o = 77 + 8 * i) : w.rangeAt g o (slL (x.s i)) := Blk.range h o _ fun j v hv => by
  have := lt_of_some hv
  rw [slL_len] at this
  subst ho
  rw [stC_get, stL_hi x (by omega) (by omega), show (77 + 8 * i + j - 77) / 8 = i by omega, show (77 + 8 * i + j - 77) % 8 = j by omega]; exact hv
theorem st_slotv {g : Nat} {x : St} {w : World} (h : stB g x w) {i o : Nat} (hi : i < 64) (ho : o = 77 + 8 * i) : w.rangeAt g o (vL (x.s i).v) := fun j v hv => by
  have := lt_of_some hv
  rw [vL_len] at this
  refine st_slot h hi ho j v ?_
  rw [← hv]
  match j, this with
  | 0, _ => rfl
  | 1, _ => rfl
  | 2, _ => rfl
  | 3, _ => rfl
  | 4, _ => rfl
  | 5, _ => rfl
  | 6, _ => rfl
theorem reg_cells {g : Nat} {x : St} {w : World} (h : stB g x w) {j : Nat} (hj : j < 11) : w.cell? ⟨g, j * 7, none⟩ = some (.int .u8 (x.r j).k) ∧ w.cell? ⟨g, j * 7 + 1, none⟩ = some (uV (x.r j).n.1.1) ∧ w.cell? ⟨g, j * 7 + 2, none⟩ = some (uV (x.r j).n.1.2) ∧ w.cell? ⟨g, j * 7 + 3, none⟩ = some (.int .u64 (x.r j).n.2.1) ∧ w.cell? ⟨g, j * 7 + 4, none⟩ = some (.int .u64 (x.r j).n.2.2) ∧ w.cell? ⟨g, j * 7 + 5, none⟩ = some (.int .i64 (x.r j).i) ∧ w.cell? ⟨g, j * 7 + 6, none⟩ = some (.int .i64 (x.r j).o) := by
  have r := st_reg h hj (Nat.mul_comm j 7)
  exact ⟨r 0 _ rfl, r 1 _ rfl, r 2 _ rfl, r 3 _ rfl, r 4 _ rfl, r 5 _ rfl, r 6 _ rfl⟩
theorem slot_cells {g : Nat} {x : St} {w : World} (h : stB g x w) {j : Nat} (hj : j < 64) : w.cell? ⟨g, 77 + j * 8, none⟩ = some (.int .u8 (x.s j).v.k) ∧ w.cell? ⟨g, 77 + j * 8 + 1, none⟩ = some (uV (x.s j).v.n.1.1) ∧ w.cell? ⟨g, 77 + j * 8 + 2, none⟩ = some (uV (x.s j).v.n.1.2) ∧ w.cell? ⟨g, 77 + j * 8 + 3, none⟩ = some (.int .u64 (x.s j).v.n.2.1) ∧ w.cell? ⟨g, 77 + j * 8 + 4, none⟩ = some (.int .u64 (x.s j).v.n.2.2) ∧ w.cell? ⟨g, 77 + j * 8 + 5, none⟩ = some (.int .i64 (x.s j).v.i) ∧ w.cell? ⟨g, 77 + j * 8 + 6, none⟩ = some (.int .i64 (x.s j).v.o) ∧ w.cell? ⟨g, 77 + j * 8 + 7, none⟩ = some (bV (x.s j).p) := by
  have r := st_slot h hj (show 77 + j * 8 = 77 + 8 * j by omega)
  exact ⟨r 0 _ rfl, r 1 _ rfl, r 2 _ rfl, r 3 _ rfl, r 4 _ rfl, r 5 _ rfl, r 6 _ rfl, r 7 _ rfl⟩
theorem st_put {g : Nat} {x : St} {w : World} (h : stB g x w) {i : Nat} (hi : i < 64) : w.cell? ⟨g, 77 + 8 * i + 7, none⟩ = some (bV (x.s i).p) := st_slot h hi rfl 7 _ rfl
theorem st_there {g : Nat} {x : St} {w : World} (h : stB g x w) {o n : Nat} (hn : o + n ≤ 589) : w.there g o n := fun j hj => by
  refine ⟨?_, Blk.free h _⟩
  rw [Blk.cell h, stC_get, List.getElem?_eq_getElem (by rw [stL_len]; omega)]
  rfl
theorem st_free {g : Nat} {x : St} {w : World} (h : stB g x w) (k : Nat) : w.frozen? ⟨g, k, none⟩ = false := Blk.free h k

/-! ### What is stored -/
theorem st_setr {g : Nat} {x : St} {w : World} (h : stB g x w) {i o : Nat} (hi : i < 11) (ho : o = 7 * i) (v : Vl) : stB g (x.reg i v) (w.setCells g o (vL v)) := by
  subst ho
  unfold stB
  rw [← stC_reg x hi v]
  exact Blk.sets _ _ _ _ h
theorem st_sets {g : Nat} {x : St} {w : World} (h : stB g x w) {i o : Nat} (hi : i < 64) (ho : o = 77 + 8 * i) (y : Sl) : stB g (x.slot i y) (w.setCells g o (slL y)) := by
  subst ho
  unfold stB
  rw [← stC_slot x hi y]
  exact Blk.sets _ _ _ _ h
theorem setA_cons (cs : Array Value) (o : Nat) (a b : List Value) : setA cs o (a ++ b) = setA (setA cs o a) (o + a.length) b := by
  induction a generalizing cs o with
  | nil => rfl
  | cons v a ih => simp only [List.cons_append, setA, ih, List.length_cons]; rw [show o + 1 + a.length = o + (a.length + 1) by omega]
/-- A slot's Val, and a slot's Put, alone. -/
theorem setA_self (cs : Array Value) : ∀ (vs : List Value) (o : Nat), (∀ j v, vs[j]? = some v → cs[o + j]? = some v) → setA cs o vs = cs
  | [], o, h => rfl
  | v :: r, o, h => by
    have h0 := h 0 v rfl
    rw [Nat.add_zero] at h0
    have e : cs.setIfInBounds o v = cs := by
      apply Array.ext_getElem?
      intro k
      rw [Array.getElem?_setIfInBounds]
      by_cases hk : o = k
      · subst hk
        rw [if_pos rfl, if_pos (Array.getElem?_eq_some_iff.mp h0).1, h0]
      · rw [if_neg hk]
    rw [setA, e]
    exact setA_self cs r (o + 1) fun j u hu => by
      rw [show o + 1 + j = o + (j + 1) by omega]
      exact h (j + 1) u (by simpa using hu)
theorem st_setv {g : Nat} {x : St} {w : World} (h : stB g x w) {i o : Nat} (hi : i < 64) (ho : o = 77 + 8 * i) (v : Vl) : stB g (x.slot i ⟨v, (x.s i).p⟩) (w.setCells g o (vL v)) := by
  subst ho
  unfold stB
  rw [← stC_slot x hi]
  have e : setA (stC x) (77 + 8 * i) (slL ⟨v, (x.s i).p⟩) = setA (stC x) (77 + 8 * i) (vL v) := by
    show setA _ _ (vL v ++ [bV (x.s i).p]) = _
    rw [setA_cons]
    apply setA_self
    intro j u hu
    have hj := lt_of_some hu
    simp only [List.length_singleton] at hj
    have : j = 0 := by omega
    subst this
    rw [vL_len, setA_get _ _ _ _ (by rw [stC_size, vL_len]; omega), vL_len, if_neg (by omega), stC_get, stL_hi x (by omega) (by omega), show (77 + 8 * i + 7 + 0 - 77) / 8 = i by omega, show (77 + 8 * i + 7 + 0 - 77) % 8 = 7 by omega]
    exact hu
  rw [e]
  exact Blk.sets _ _ _ _ h
theorem slL_app (y : Sl) : slL y = vL y.v ++ [bV y.p] := rfl
theorem stC_at (x : St) {i j : Nat} (hi : i < 64) (hj : j < 8) : (stC x)[77 + 8 * i + j]? = (slL (x.s i))[j]? := by
  rw [stC_get, stL_hi x (by omega) (by omega), show (77 + 8 * i + j - 77) / 8 = i by omega, show (77 + 8 * i + j - 77) % 8 = j by omega]
theorem setA_selfv (x : St) {i : Nat} (hi : i < 64) : setA (stC x) (77 + 8 * i) (vL (x.s i).v) = stC x := by
  refine setA_self _ _ _ fun j u hu => ?_
  have hj := lt_of_some hu
  rw [vL_len] at hj
  rw [stC_at x hi (by omega), slL_app, List.getElem?_append_left (by rw [vL_len]; exact hj)]
  exact hu
theorem st_setp {g : Nat} {x : St} {w : World} (h : stB g x w) {i : Nat} (hi : i < 64) (p : BitVec 8) : stB g (x.slot i ⟨(x.s i).v, p⟩) (w.setCell ⟨g, 77 + 8 * i + 7, none⟩ (bV p)) := by
  unfold stB
  have e : stC (x.slot i ⟨(x.s i).v, p⟩) = (stC x).setIfInBounds (77 + 8 * i + 7) (bV p) := by
    rw [← stC_slot x hi, slL_app, setA_cons, setA_selfv x hi, vL_len]
    rfl
  rw [e]
  exact Blk.set h _ _
theorem st_row {g : Nat} {x : St} {w : World} (h : stB g x w) (y : St) : stB g y (w.setRow g (stC y)) := setRow_heap w g _ _ _ _ h
theorem vL_one (v : Vl) : ∀ u ∈ vL v, u.oneCell' = true := by
  intro u hu
  simp only [vL, List.mem_cons, List.not_mem_nil, or_false] at hu
  rcases hu with rfl | rfl | rfl | rfl | rfl | rfl | rfl <;> rfl
theorem slL_one (y : Sl) : ∀ u ∈ slL y, u.oneCell' = true := by
  intro u hu
  simp only [slL, List.mem_cons, List.not_mem_nil, or_false] at hu
  rcases hu with rfl | rfl | rfl | rfl | rfl | rfl | rfl | rfl <;> rfl
theorem gL_mem {n : Nat} {f : Nat → List Value} {u : Value} (h : u ∈ gL n f) : ∃ i, u ∈ f i := by
  obtain ⟨i, _, hi⟩ := List.mem_flatMap.mp h
  exact ⟨i, hi⟩
theorem stL_one (x : St) : ∀ u ∈ stL x, u.oneCell' = true := by
  intro u hu
  rcases List.mem_append.mp hu with h | h
  · obtain ⟨i, hi⟩ := gL_mem h
    exact vL_one _ u hi
  · obtain ⟨i, hi⟩ := gL_mem h
    exact slL_one _ u hi
theorem below_row {B g : Nat} {w u : World} (h : Below B w u) (hg : B ≤ g) (cs : Array Value) : Below B w (u.setRow g cs) := by
  refine ⟨h.os, h.tape, h.output, ?_, fun k hk => ?_⟩
  · have := h.size
    show _ ≤ (u.heap.modify g _).size
    rw [Array.size_modify]; exact this
  · rw [← h.block k hk]
    exact setRow_other u g k cs (by omega)

/-! ### At the operations -/
section
variable {ops : Array Oper} {rest : List Oper} {op : Oper} {a : Act} {w : World} {Q : Exit → Act → World → Prop}
theorem st_load (hgd : op.guard = none) (x : Operand) (ho : op.op = .load 36 x) {g : Nat} {X : St} (hx : a.eval x = .pointer (some ⟨g, 0, none⟩)) (hb : stB g X w)
    (h : wpList Try.prog ops Q rest (a.put op.dst (stV X)) w) : wpList Try.prog ops Q (op :: rest) a w :=
  wpList_load_mid hgd 36 x ho g 0 hx (stL X) _ (st_all hb) Try.underlying36 rfl (by rw [stL_len]; kernel_rfl) h
theorem st_load_w (hw : Region.wanted op (yielded ops a.tmps) = true) (x : Operand) (ho : op.op = .load 36 x) {g : Nat} {X : St} (hx : a.eval x = .pointer (some ⟨g, 0, none⟩)) (hb : stB g X w)
    (h : wpList Try.prog ops Q rest (a.put op.dst (stV X)) w) : wpList Try.prog ops Q (op :: rest) a w := by
  unfold wpList
  rw [if_pos hw]
  exact .inl (wp_load_mid 36 x ho g 0 hx (stL X) _ (st_all hb) Try.underlying36 rfl (by rw [stL_len]; kernel_rfl) h)
theorem st_loadr (hgd : op.guard = none) (x : Operand) (ho : op.op = .load 31 x) {g : Nat} {X : St} (hx : a.eval x = .pointer (some ⟨g, 0, none⟩)) (hb : stB g X w)
    (h : wpList Try.prog ops Q rest (a.put op.dst (rV X)) w) : wpList Try.prog ops Q (op :: rest) a w :=
  wpList_load_mid hgd 31 x ho g 0 hx (rL X) _ (st_regs hb) Try.underlying31 rfl (by rw [rL_len]; kernel_rfl) h
theorem st_loadz (hgd : op.guard = none) (x : Operand) (ho : op.op = .load 34 x) {g : Nat} {X : St} (hx : a.eval x = .pointer (some ⟨g, 77, none⟩)) (hb : stB g X w)
    (h : wpList Try.prog ops Q rest (a.put op.dst (zV X)) w) : wpList Try.prog ops Q (op :: rest) a w :=
  wpList_load_mid hgd 34 x ho g 77 hx (zL X) _ (st_slots hb) Try.underlying34 rfl (by rw [zL_len]; kernel_rfl) h
theorem st_loadV (hgd : op.guard = none) (x : Operand) (ho : op.op = .load 30 x) {g o : Nat} {v : Vl} (hx : a.eval x = .pointer (some ⟨g, o, none⟩)) (hc : w.rangeAt g o (vL v))
    (h : wpList Try.prog ops Q rest (a.put op.dst (vV v)) w) : wpList Try.prog ops Q (op :: rest) a w :=
  wpList_load_mid hgd 30 x ho g o hx (vL v) _ hc Try.underlying30 rfl (by rw [vL_len]; kernel_rfl) h
theorem st_loadS (hgd : op.guard = none) (x : Operand) (ho : op.op = .load 33 x) {g o : Nat} {v : Sl} (hx : a.eval x = .pointer (some ⟨g, o, none⟩)) (hc : w.rangeAt g o (slL v))
    (h : wpList Try.prog ops Q rest (a.put op.dst (slV v)) w) : wpList Try.prog ops Q (op :: rest) a w :=
  wpList_load_mid hgd 33 x ho g o hx (slL v) _ hc Try.underlying33 rfl (by rw [slL_len]; kernel_rfl) h
theorem st_storeV (hgd : op.guard = none) (x y : Operand) (ho : op.op = .store 30 x y) {g o : Nat} {v : Vl} (hx : a.eval x = .pointer (some ⟨g, o, none⟩)) (hy : a.eval y = vV v) (ht : w.there g o 7)
    (h : wpList Try.prog ops Q rest (a.put op.dst undef) (w.setCells g o (vL v))) : wpList Try.prog ops Q (op :: rest) a w :=
  wpList_store_mid hgd 30 x y ho g o (vL v).toArray hx hy ht (by kernel_rfl) (all_oneCell_toArray (vL_one v)) h
theorem st_storeS (hgd : op.guard = none) (x y : Operand) (ho : op.op = .store 33 x y) {g o : Nat} {v : Sl} (hx : a.eval x = .pointer (some ⟨g, o, none⟩)) (hy : a.eval y = slV v) (ht : w.there g o 8)
    (h : wpList Try.prog ops Q rest (a.put op.dst undef) (w.setCells g o (slL v))) : wpList Try.prog ops Q (op :: rest) a w :=
  wpList_store_mid hgd 33 x y ho g o (slL v).toArray hx hy ht (by kernel_rfl) (all_oneCell_toArray (slL_one v)) h
theorem st_store (hgd : op.guard = none) (x y : Operand) (ho : op.op = .store 36 x y) {g : Nat} {X Y : St} (hx : a.eval x = .pointer (some ⟨g, 0, none⟩)) (hy : a.eval y = stV Y) (hb : stB g X w)
    (h : wpList Try.prog ops Q rest (a.put op.dst undef) (w.setRow g (stC Y))) : wpList Try.prog ops Q (op :: rest) a w :=
  wpList_plain hgd fun _ hK => wp_store_row 36 x y ho g (stC Y) hx hy 36 (stC X) hb (by rw [stC_size]; kernel_rfl) (by rw [stC_size, stC_size]) (by
    show (stL Y).toArray.all _ = true
    exact all_oneCell_toArray (stL_one Y)) (hK _ _ h)
theorem st_storeZ (hgd : op.guard = none) (x y : Operand) (ho : op.op = .store 36 x y) {g : Nat} {X : St} (hx : a.eval x = .pointer (some ⟨g, 0, none⟩)) (hy : a.eval y = .agg Try.zeroCells36) (hb : stB g X w)
    (h : wpList Try.prog ops Q rest (a.put op.dst undef) (w.setRow g (stC stZ))) : wpList Try.prog ops Q (op :: rest) a w :=
  st_store hgd x y ho hx (hy.trans (by rw [stZ_cells])) hb h
end
theorem st_result {g : Nat} {x : St} {w : World} (h : stB g x w) : (loadVar 36 ⟨g, 0, none⟩).run Try.prog w = .ok (stV x) w :=
  run_loadVar_mid w g 0 36 (stL x) _ (st_all h) Try.underlying36 rfl (by rw [stL_len]; kernel_rfl)
/-! ### An element of its arrays as a value -/
theorem run_index_reg (x : St) {i : Nat} (hi : i < 11) (w : World) : (Instr.index 31 (rV x) (.int .i64 i)).run Try.prog w = .ok (vV (x.r i)) w := by
  have e := rC_part x hi
  simp [Instr.index, go_sem, part, hi, e]
  rfl
theorem run_index_slot (x : St) {i : Nat} (hi : i < 64) (w : World) : (Instr.index 34 (zV x) (.int .i64 i)).run Try.prog w = .ok (slV (x.s i)) w := by
  have e := zC_part x hi
  simp [Instr.index, go_sem, part, hi, e]
  rfl

end Go.Proofs.Ytdgckjkdimnpoaa

namespace Go.Proofs.Ytdgckjkdimnpoaa
open Go Go.RowKit
set_option maxRecDepth 100000
set_option linter.unusedVariables false
set_option linter.unusedSimpArgs false

theorem eqVal_refl (d : Nat) (v : Vl) (w : World) : (Op.equalIn (d + 6) 30 (vV v) (vV v)).run Try.prog w = .ok true w := by
  go_simp
theorem eqSlot_refl (d : Nat) (v : Sl) (w : World) : (Op.equalIn (d + 6) 33 (slV v) (slV v)).run Try.prog w = .ok true w := by
  go_simp
theorem eqItems_refl {P : Program} (d : Nat) (e : TypeId) (c : Nat) (xs : Array Value) : ∀ (is : List Nat) (w : World), (∀ i ∈ is, ∃ a, ∀ w, (part e xs (i * c)).run P w = .ok a w ∧ (Op.equalIn d e a a).run P w = .ok true w) → (Op.eqItems d e c xs xs is).run P w = .ok true w
  | [], w, h => by simp [Op.eqItems]
  | i :: is, w, h => by
    obtain ⟨a, ha⟩ := h i (by simp)
    have ih := eqItems_refl d e c xs is w fun j hj => h j (by simp [hj])
    simp only [Op.eqItems, Sem.run_bind, (ha w).1, (ha w).2, Result.andThen_ok]
    simpa using ih
theorem part_reg (x : St) {i : Nat} (hi : i < 11) (w : World) : (part 30 (rC x) (i * 7)).run Try.prog w = .ok (vV (x.r i)) w := by
  have e := rC_part x hi
  simp [go_sem, part, e]
  rfl
theorem part_slot (x : St) {i : Nat} (hi : i < 64) (w : World) : (part 33 (zC x) (i * 8)).run Try.prog w = .ok (slV (x.s i)) w := by
  have e := zC_part x hi
  simp [go_sem, part, e]
  rfl
theorem eqRegs_refl (d : Nat) (x : St) (w : World) : (Op.equalIn (d + 7) 31 (rV x) (rV x)).run Try.prog w = .ok true w := by
  rw [run_equalIn_array w (d + 6) (rC x) (rC x) Try.underlying31 (i := Try.t30) (by kernel_rfl)]
  exact eqItems_refl (d + 6) _ _ (rC x) _ w fun i hi => ⟨vV (x.r i), fun w => ⟨part_reg x (List.mem_range.mp hi) w, eqVal_refl d (x.r i) w⟩⟩
theorem eqSlots_refl (d : Nat) (x : St) (w : World) : (Op.equalIn (d + 7) 34 (zV x) (zV x)).run Try.prog w = .ok true w := by
  rw [run_equalIn_array w (d + 6) (zC x) (zC x) Try.underlying34 (i := Try.t33) (by kernel_rfl)]
  exact eqItems_refl (d + 6) _ _ (zC x) _ w fun i hi => ⟨slV (x.s i), fun w => ⟨part_slot x (List.mem_range.mp hi) w, eqSlot_refl d (x.s i) w⟩⟩
theorem st_parts (x : St) : (stC x).extract 0 77 = rC x ∧ (stC x).extract 77 589 = zC x := by
  unfold stC rC zC stL
  constructor
  · apply Array.ext'
    simp [rL_len]
  · apply Array.ext'
    simp [rL_len, zL_len]
    exact List.take_of_length_le (by rw [zL_len]; omega)
theorem eqState_refl (d : Nat) (x : St) (w : World) : (Op.equalIn (d + 8) 36 (stV x) (stV x)).run Try.prog w = .ok true w := by
  have e1 := (st_parts x).1
  have e2 := (st_parts x).2
  have r1 := eqRegs_refl d x
  have r2 := eqSlots_refl d x
  simp [go_sem, Op.eqFields, part, e1, e2, r1, r2]
theorem st_eq (x : St) (w : World) : (binOp .eql 36 (stV x) (stV x)).run Try.prog w = .ok (.bool true) w := by
  have h := eqState_refl 9992 x
  rw [run_eql_struct]
  simp only [h, Result.andThen_ok]
theorem st_ne (x : St) (w : World) : (binOp .neq 36 (stV x) (stV x)).run Try.prog w = .ok (.bool false) w := by
  have h := eqState_refl 9992 x
  rw [run_neq_struct]
  simp only [h, Result.andThen_ok, Bool.not_true]
theorem regs_ne (x : St) (w : World) : (binOp .neq 31 (rV x) (rV x)).run Try.prog w = .ok (.bool false) w := by
  have h := eqRegs_refl 9993 x
  rw [run_neq_struct]
  simp only [h, Result.andThen_ok, Bool.not_true]
theorem slots_eq (x : St) (w : World) : (binOp .eql 34 (zV x) (zV x)).run Try.prog w = .ok (.bool true) w := by
  have h := eqSlots_refl 9993 x
  rw [run_eql_struct]
  simp only [h, Result.andThen_ok]
theorem slot_ne (x : Sl) (w : World) : (binOp .neq 33 (slV x) (slV x)).run Try.prog w = .ok (.bool false) w := by
  have h := eqSlot_refl 9994 x
  rw [run_neq_struct]
  simp only [h, Result.andThen_ok, Bool.not_true]
theorem val_ne (x : Vl) (w : World) : (binOp .neq 30 (vV x) (vV x)).run Try.prog w = .ok (.bool false) w := by
  have h := eqVal_refl 9994 x
  rw [run_neq_struct]
  simp only [h, Result.andThen_ok, Bool.not_true]

end Go.Proofs.Ytdgckjkdimnpoaa

namespace Go.Proofs.Ytdgckjkdimnpoaa
open Go Go.RowKit
set_option maxRecDepth 100000
set_option linter.unusedVariables false
set_option linter.unusedSimpArgs false

theorem stB.newz (w : World) {g : Nat} (hg : g = w.heap.size) : stB g stZ (w.alloc (.cells Try.zeroCells36 36)) := by rw [stZ_cells]; exact stB.new w stZ hg
theorem stB.below {g B : Nat} {x : St} {w w' : World} (h : stB g x w) (b : Below B w w') (hB : g < B) : stB g x w' := Blk.below h b hB
theorem stB.row_other {g k : Nat} {x : St} {w : World} (h : stB g x w) (cs : Array Value) (hk : g ≠ k) : stB g x (w.setRow k cs) := (setRow_other w k g cs hk).trans h
theorem results_st {fn : Func} {p : Tmp} {ty : TypeId} (h : fn.results = #[.cell p ty]) (tmps : Array Value) (P : Program) (w : World) :
    (results fn tmps).run P w = ((asAddr (tmps.getD p undef)).run P w).andThen fun a w' => (loadVar ty a).run P w' := by
  simp [results, h]
theorem stB.sets_other {g k o : Nat} {x : St} {w : World} (h : stB g x w) (vs : List Value) (hk : g ≠ k) : stB g x (w.setCells k o vs) := by
  induction vs generalizing o w with
  | nil => exact h
  | cons v r ih => exact ih (Blk.other h v hk)

set_option maxRecDepth 100000 in
set_option maxHeartbeats 8000000 in
theorem sp_first (w : World) : Calls Try.prog 11 #[] w (Gives (stV stF) w) := by
  go_enter Try.func11, Try.ntmps11
  go_upto_region 1 with fail
  have X0 := Lib.hid (stB.newz w rfl)
  have B0 := Lib.hid (below_alloc (Below.refl w.heap.size w) (.cells Try.zeroCells36 36))
  generalize w.alloc (.cells Try.zeroCells36 36) = w1 at *
  have hl := Lib.hid X0.out.lt
  have X1 := Lib.hid (stB.newz w1 rfl)
  have Y1 := Lib.hid (X0.out.after (below_alloc (Below.refl _ w1) (.cells Try.zeroCells36 36)))
  have B1 := Lib.hid (below_alloc B0.out (.cells Try.zeroCells36 36))
  clear X0 B0
  go_upto_region 2 with (refine st_storeZ rfl _ _ rfl rfl rfl X1.out ?_)
  have hgt : Hid (w.heap.size ≠ w1.heap.size) := Lib.hid (by have := hl.out; omega)
  have X2 := Lib.hid (st_row X1.out stZ)
  have Y2 := Lib.hid (Y1.out.row_other (stC stZ) hgt.out)
  have B2 := Lib.hid (below_row B1.out (g := w1.heap.size) (by have := hl.out; omega) (stC stZ))
  clear X1 Y1 B1
  generalize (w1.alloc (.cells Try.zeroCells36 36)).setRow w1.heap.size (stC stZ) = w2 at *
  generalize w1.heap.size = g1 at *
  go_upto_region 3 with (refine st_storeV rfl _ _ rfl (g := g1) (o := 7) (v := ⟨2, fZ, 0, 0⟩) rfl rfl (st_there X2.out (by omega)) ?_)
  have X3 := Lib.hid (st_setr X2.out (i := 1) (o := 7) (by omega) rfl ⟨2, fZ, 0, 0⟩)
  have Y3 := Lib.hid (Y2.out.sets_other (o := 7) (vL ⟨2, fZ, 0, 0⟩) hgt.out)
  have B3 := Lib.hid (below_sets (B := w.heap.size) (k := g1) (by have := hl.out; omega) (vL ⟨2, fZ, 0, 0⟩) 7 w2 B2.out)
  clear X2 Y2 B2
  generalize w2.setCells g1 7 (vL ⟨2, fZ, 0, 0⟩) = w3 at *
  go_upto_region 4 with (refine st_storeV rfl _ _ rfl (g := g1) (o := 70) (v := ⟨3, fZ, 0, 512⟩) rfl rfl (st_there X3.out (by omega)) ?_)
  have X4 : Hid (stB g1 stF (w3.setCells g1 70 (vL ⟨3, fZ, 0, 512⟩))) := Lib.hid (st_setr X3.out (i := 10) (o := 70) (by omega) rfl ⟨3, fZ, 0, 512⟩)
  have Y4 := Lib.hid (Y3.out.sets_other (o := 70) (vL ⟨3, fZ, 0, 512⟩) hgt.out)
  have B4 := Lib.hid (below_sets (B := w.heap.size) (k := g1) (by have := hl.out; omega) (vL ⟨3, fZ, 0, 512⟩) 70 w3 B3.out)
  clear X3 Y3 B3
  generalize w3.setCells g1 70 (vL ⟨3, fZ, 0, 512⟩) = w4 at *
  have X5 := Lib.hid (st_row Y4.out stF)
  have B5 := Lib.hid (below_row B4.out (g := w.heap.size) (Nat.le_refl _) (stC stF))
  go_wp2_with (first | (refine st_load rfl _ rfl rfl X4.out ?_) | (refine st_store rfl _ _ rfl rfl rfl Y4.out ?_))
  generalize w4.setRow w.heap.size (stC stF) = w5 at *
  exact bodyPost_ret (v := stV stF) (by rw [results_st rfl]; simp [asAddr, Act.put, Result.andThen, st_result X5.out]) rfl ⟨rfl, B5.out⟩

set_option maxRecDepth 100000 in
set_option maxHeartbeats 8000000 in
theorem sr_first (w : World) : Calls Try.prog 12 #[] w (Gives (stV stF) w) := by
  go_enter Try.func12, Try.ntmps12
  go_upto_region 1 with fail
  have X0 := Lib.hid (stB.newz w rfl)
  have B0 := Lib.hid (below_alloc (Below.refl w.heap.size w) (.cells Try.zeroCells36 36))
  generalize w.alloc (.cells Try.zeroCells36 36) = w1 at *
  have hl := Lib.hid X0.out.lt
  have X1 := Lib.hid (stB.newz w1 rfl)
  have Y1 := Lib.hid (X0.out.after (below_alloc (Below.refl _ w1) (.cells Try.zeroCells36 36)))
  have B1 := Lib.hid (below_alloc B0.out (.cells Try.zeroCells36 36))
  clear X0 B0
  go_upto_region 2 with (refine st_storeZ rfl _ _ rfl rfl rfl X1.out ?_)
  have hgt : Hid (w.heap.size ≠ w1.heap.size) := Lib.hid (by have := hl.out; omega)
  have X2 := Lib.hid (st_row X1.out stZ)
  have Y2 := Lib.hid (Y1.out.row_other (stC stZ) hgt.out)
  have B2 := Lib.hid (below_row B1.out (g := w1.heap.size) (by have := hl.out; omega) (stC stZ))
  clear X1 Y1 B1
  generalize (w1.alloc (.cells Try.zeroCells36 36)).setRow w1.heap.size (stC stZ) = w2 at *
  generalize w1.heap.size = g1 at *
  go_upto_region 3 with (refine st_storeV rfl _ _ rfl (g := g1) (o := 7) (v := ⟨2, fZ, 0, 0⟩) rfl rfl (st_there X2.out (by omega)) ?_)
  have X3 := Lib.hid (st_setr X2.out (i := 1) (o := 7) (by omega) rfl ⟨2, fZ, 0, 0⟩)
  have Y3 := Lib.hid (Y2.out.sets_other (o := 7) (vL ⟨2, fZ, 0, 0⟩) hgt.out)
  have B3 := Lib.hid (below_sets (B := w.heap.size) (k := g1) (by have := hl.out; omega) (vL ⟨2, fZ, 0, 0⟩) 7 w2 B2.out)
  clear X2 Y2 B2
  generalize w2.setCells g1 7 (vL ⟨2, fZ, 0, 0⟩) = w3 at *
  go_upto_region 4 with (refine st_storeV rfl _ _ rfl (g := g1) (o := 70) (v := ⟨3, fZ, 0, 512⟩) rfl rfl (st_there X3.out (by omega)) ?_)
  have X4 : Hid (stB g1 stF (w3.setCells g1 70 (vL ⟨3, fZ, 0, 512⟩))) := Lib.hid (st_setr X3.out (i := 10) (o := 70) (by omega) rfl ⟨3, fZ, 0, 512⟩)
  have Y4 := Lib.hid (Y3.out.sets_other (o := 70) (vL ⟨3, fZ, 0, 512⟩) hgt.out)
  have B4 := Lib.hid (below_sets (B := w.heap.size) (k := g1) (by have := hl.out; omega) (vL ⟨3, fZ, 0, 512⟩) 70 w3 B3.out)
  clear X3 Y3 B3
  generalize w3.setCells g1 70 (vL ⟨3, fZ, 0, 512⟩) = w4 at *
  have X5 := Lib.hid (st_row Y4.out stF)
  have B5 := Lib.hid (below_row B4.out (g := w.heap.size) (Nat.le_refl _) (stC stF))
  go_wp2_with (first | (refine st_load rfl _ rfl rfl X4.out ?_) | (refine st_store rfl _ _ rfl rfl rfl Y4.out ?_))
  generalize w4.setRow w.heap.size (stC stF) = w5 at *
  exact bodyPost_ret (v := stV stF) (by rw [results_st rfl]; simp [asAddr, Act.put, Result.andThen, st_result X5.out]) rfl ⟨rfl, B5.out⟩

end Go.Proofs.Ytdgckjkdimnpoaa

namespace Go.Proofs.Ytdgckjkdimnpoaa
open Go Go.RowKit
set_option maxRecDepth 100000
set_option linter.unusedVariables false
set_option linter.unusedSimpArgs false

theorem b8_lt (x : BitVec 8) : x.toNat < 256 := x.isLt
theorem b8_and (x y : BitVec 8) : bits .and .u8 (x.toNat : Int) (y.toNat : Int) = ((x &&& y).toNat : Int) := by
  rw [u8_and_nat _ _ (b8_lt x) (b8_lt y), BitVec.toNat_and]
theorem b8_or (x y : BitVec 8) : bits .or .u8 (x.toNat : Int) (y.toNat : Int) = ((x ||| y).toNat : Int) := by
  rw [u8_or_nat _ _ (b8_lt x) (b8_lt y), BitVec.toNat_or]
theorem b8_andNot (x y : BitVec 8) : bits .andNot .u8 (x.toNat : Int) (y.toNat : Int) = ((x &&& ~~~y).toNat : Int) := by
  rw [u8_andNot_nat _ _ (b8_lt x) (b8_lt y), BitVec.toNat_and, BitVec.toNat_not]
theorem b8_beq (x y : BitVec 8) : ((x.toNat : Int) == (y.toNat : Int)) = (x == y) := by
  rw [Bool.eq_iff_iff, beq_iff_eq, beq_iff_eq]
  exact ⟨fun h => BitVec.eq_of_toNat_eq (by omega), fun h => by rw [h]⟩
theorem b8_eq0 (x : BitVec 8) : ((x.toNat : Int) == 0) = (x == 0#8) := b8_beq x 0#8
theorem b8_eq255 (x : BitVec 8) : ((x.toNat : Int) == 255) = (x == 255#8) := b8_beq x 255#8

set_option maxHeartbeats 8000000 in
theorem sp_isKnown (v : Vl) (w : World) : Calls Try.prog 42 #[vV v] w (Gives (.bool (!(v.k == 0))) w) := by
  have X0 := Lib.hid ((Blks.start w).new (vCells v) 30)
  have c0 := (vB.cells (X0.out.get (g := w.heap.size) (cs := vCells v) (t := 30) (by simp))).1
  go_enter Try.func42, Try.ntmps42
  go_wp2_with fail
  go_ret
  exact ⟨rfl, X0.out.1⟩
set_option maxHeartbeats 8000000 in
theorem sp_hasAll (p b : BitVec 8) (w : World) : Calls Try.prog 41 #[bV p, bV b] w (Gives (.bool (pAll p b)) w) := by
  go_enter Try.func41, Try.ntmps41
  go_wp2_with fail
  go_ret
  refine ⟨end_bool ?_, Below.refl _ _⟩
  rw [b8_and, b8_beq]
  rfl
theorem isSz_iff {n : Int} : isSz n = true ↔ n = 1 ∨ n = 2 ∨ n = 4 ∨ n = 8 := by
  unfold isSz
  simp [or_assoc]
set_option maxHeartbeats 8000000 in
theorem sp_isSize (n : Int) (w : World) : Calls Try.prog 34 #[.int .i64 n] w (Gives (.bool (isSz n)) w) := by
  unfold isSz
  cases h1 : (n == 1) <;> cases h2 : (n == 2) <;> cases h4 : (n == 4) <;> cases h8 : (n == 8) <;>
  (go_enter Try.func34, Try.ntmps34
   go_wp2_with fail
   go_ret
   exact ⟨rfl, Below.refl _ _⟩)
set_option maxHeartbeats 8000000 in
theorem sr_number (n : Int) (w : World) : Calls Try.prog 38 #[.int .i64 n] w (Gives (.bool (isSz n)) w) := by
  unfold isSz
  cases h1 : (n == 1) <;> cases h2 : (n == 2) <;> cases h4 : (n == 4) <;> cases h8 : (n == 8) <;>
  (go_enter Try.func38, Try.ntmps38
   go_wp2_with fail
   go_ret
   exact ⟨rfl, Below.refl _ _⟩)
set_option maxHeartbeats 8000000 in
theorem sp_isThere (off size : Int) (h1 : -9223372036854775808 ≤ off ∧ off ≤ 9223372036854775807) (h2 : -9223372036854775808 ≤ size ∧ size ≤ 9223372036854775807) (w : World) : Calls Try.prog 45 #[.int .i64 off, .int .i64 size] w (Gives (.bool (there off size)) w) := by
  unfold there
  by_cases k1 : 0 ≤ off
  · by_cases k2 : 0 ≤ size
    · have hw : IntKind.i64.wrap (512 - size) = 512 - size := by rw [IntKind.wrap_i64]; omega
      rw [decide_eq_true k1, decide_eq_true k2]
      cases k3 : decide (off ≤ 512 - size) <;>
      (go_enter Try.func45, Try.ntmps45
       go_wp2_with fail
       go_ret
       exact ⟨rfl, Below.refl _ _⟩)
    · rw [decide_eq_true k1, decide_eq_false k2]
      go_enter Try.func45, Try.ntmps45
      go_wp2_with fail
      go_ret
      exact ⟨rfl, Below.refl _ _⟩
  · rw [decide_eq_false k1]
    go_enter Try.func45, Try.ntmps45
    go_wp2_with fail
    go_ret
    exact ⟨rfl, Below.refl _ _⟩
theorem pBits_cases {off size : Int} (hs : isSz size = true) (ho : 0 ≤ off) : ∃ r : Int, off.tmod 8 = r ∧ off % 8 = r ∧ (r = 0 ∨ r = 1 ∨ r = 2 ∨ r = 3 ∨ r = 4 ∨ r = 5 ∨ r = 6 ∨ r = 7) :=
  ⟨off % 8, by rw [Int.tmod_eq_emod_of_nonneg ho], rfl, by omega⟩
set_option maxHeartbeats 8000000 in
theorem sp_putBits (off size : Int) (hs : isSz size = true) (ho : 0 ≤ off ∧ off ≤ 512) (w : World) : Calls Try.prog 37 #[.int .i64 off, .int .i64 size] w (Gives (bV (pBits off size)) w) := by
  obtain ⟨r, e1, e2, hr⟩ := pBits_cases hs ho.1
  have k1 : ¬ off < 0 := by omega
  have key : Hid (pBits off size = ((1#8 <<< size.toNat) - 1#8) <<< r.toNat) := Lib.hid (by unfold pBits; rw [e2])
  clear e2
  rcases isSz_iff.mp hs with rfl | rfl | rfl | rfl <;> rcases hr with rfl | rfl | rfl | rfl | rfl | rfl | rfl | rfl <;>
  (rw [key.out]; clear key
   go_enter Try.func37, Try.ntmps37
   go_wp2_with fail
   go_ret
   exact ⟨rfl, Below.refl _ _⟩)

theorem rch_there {off size : Int} (h : there off size = false) : rch off size = 80 := by unfold rch; rw [h]; rfl
theorem there_iff {off size : Int} : there off size = true ↔ 0 ≤ off ∧ 0 ≤ size ∧ off ≤ 512 - size := by
  unfold there
  simp [and_assoc]
set_option maxHeartbeats 8000000 in
theorem sp_reach (off size : Int) (hs : isSz size = true) (h1 : -9223372036854775808 ≤ off ∧ off ≤ 9223372036854775807) (w : World) : Calls Try.prog 36 #[.int .i64 off, .int .i64 size] w (Gives (.int .i64 (rch off size)) w) := by
  have T := Lib.hid (sp_isThere off size h1 (by rcases isSz_iff.mp hs with rfl | rfl | rfl | rfl <;> omega))
  cases hT : there off size
  · rw [hT] at T
    rw [rch_there hT]
    go_enter Try.func36, Try.ntmps36
    go_wp2_with fail
    refine (T.out _).mono ?_; rintro e w1 ⟨rfl, b1⟩
    go_wp2_with fail
    go_ret
    exact ⟨rfl, b1⟩
  · rw [hT] at T
    have ho := there_iff.mp hT
    have hz : (size == 0) = false := by rcases isSz_iff.mp hs with rfl | rfl | rfl | rfl <;> rfl
    have hz2 : ¬ size = 0 := by rcases isSz_iff.mp hs with rfl | rfl | rfl | rfl <;> omega
    have hm : off.tmod size = off % size := by rw [Int.tmod_eq_emod_of_nonneg ho.1]
    unfold rch
    rw [hT, if_pos rfl]
    clear hs
    cases hr : (off % size == 0)
    · have hr' : Hid (¬ off % size = 0) := Lib.hid (by simpa using hr)
      have hr2 : (off % size != 0) = true := by simp [bne, hr]
      rw [if_neg hr'.out]
      go_enter Try.func36, Try.ntmps36
      go_wp2_with fail
      refine (T.out _).mono ?_; rintro e w1 ⟨rfl, b1⟩
      go_wp2_with fail
      go_ret
      exact ⟨rfl, b1⟩
    · have hr' : Hid (off % size = 0) := Lib.hid (by simpa using hr)
      have hr2 : (off % size != 0) = false := by simp [bne, hr]
      rw [if_pos hr'.out]
      go_enter Try.func36, Try.ntmps36
      go_wp2_with fail
      refine (T.out _).mono ?_; rintro e w1 ⟨rfl, b1⟩
      go_wp2_with fail
      go_ret
      exact ⟨rfl, b1⟩
set_option maxHeartbeats 8000000 in
theorem sr_fits (off size : Int) (hs : isSz size = true) (h1 : -9223372036854775808 ≤ off ∧ off ≤ 9223372036854775807) (w : World) : Calls Try.prog 39 #[.int .i64 off, .int .i64 size] w (Gives (.int .i64 (rch off size)) w) := by
  have hw : IntKind.i64.wrap (512 - size) = 512 - size := by rw [IntKind.wrap_i64]; rcases isSz_iff.mp hs with rfl | rfl | rfl | rfl <;> omega
  have hsn : 0 ≤ size := by rcases isSz_iff.mp hs with rfl | rfl | rfl | rfl <;> omega
  cases hT : there off size
  · rw [rch_there hT]
    by_cases k1 : 0 ≤ off
    · have k2 : 512 - size < off := by
        rcases int_lt_or (512 - size) off with h | h
        · exact h
        · exact absurd (there_iff.mpr ⟨k1, hsn, h⟩) (by rw [hT]; exact Bool.false_ne_true)
      have k3 : ¬ off < 0 := by omega
      clear hs hsn hT
      go_enter Try.func39, Try.ntmps39
      go_wp2_with fail
      go_ret
      exact ⟨rfl, Below.refl _ _⟩
    · clear hs hsn hT
      go_enter Try.func39, Try.ntmps39
      go_wp2_with fail
      go_ret
      exact ⟨rfl, Below.refl _ _⟩
  · have ho := there_iff.mp hT
    have hz : (size == 0) = false := by rcases isSz_iff.mp hs with rfl | rfl | rfl | rfl <;> rfl
    have hz2 : ¬ size = 0 := by rcases isSz_iff.mp hs with rfl | rfl | rfl | rfl <;> omega
    have hm : off.tmod size = off % size := by rw [Int.tmod_eq_emod_of_nonneg ho.1]
    have k1 : 0 ≤ off := ho.1
    have k2 : off ≤ 512 - size := ho.2.2
    have k3 : ¬ off < 0 := by omega
    unfold rch
    rw [hT, if_pos rfl]
    clear hs hsn hT ho
    cases hr : (off % size == 0)
    · have hr' : Hid (¬ off % size = 0) := Lib.hid (by simpa using hr)
      have hr2 : (off % size != 0) = true := by simp [bne, hr]
      rw [if_neg hr'.out]
      go_enter Try.func39, Try.ntmps39
      go_wp2_with fail
      go_ret
      exact ⟨rfl, Below.refl _ _⟩
    · have hr' : Hid (off % size = 0) := Lib.hid (by simpa using hr)
      have hr2 : (off % size != 0) = false := by simp [bne, hr]
      rw [if_pos hr'.out]
      go_enter Try.func39, Try.ntmps39
      go_wp2_with fail
      go_ret
      exact ⟨rfl, Below.refl _ _⟩
set_option maxHeartbeats 8000000 in
theorem sp_mayPut (size : Int) (v : Vl) (w : World) (hv : vIn v) : Calls Try.prog 35 #[.int .i64 size, vV v] w (Gives (.bool (mayP size v)) w) := by
  have K := Lib.hid (sp_isKnown v)
  have R := Lib.hid fun w => vp_right v w hv
  have X0 := Lib.hid ((Blks.start w).new (vCells v) 30)
  obtain ⟨c0, c1, c2, c3, c4, c5, c6⟩ := vB.cells (X0.out.get (g := w.heap.size) (cs := vCells v) (t := 30) (by simp))
  unfold mayP
  cases h1 : (v.k == 0)
  · rw [h1] at K
    simp only [Bool.not_false, Bool.true_and] at K ⊢
    cases h2 : vR v
    · rw [h2] at R
      go_enter Try.func35, Try.ntmps35
      go_wp2_with fail
      refine (K.out _).mono ?_; rintro e w1 ⟨rfl, b1⟩
      have X1 := Lib.hid (X0.out.after b1)
      clear X0 b1 c0 c1 c2 c3 c4 c5 c6 K h1
      obtain ⟨c0, c1, c2, c3, c4, c5, c6⟩ := vB.cells (X1.out.get (g := w.heap.size) (cs := vCells v) (t := 30) (by simp))
      go_wp2_with fail
      refine (R.out _).mono ?_; rintro e w2 ⟨rfl, b2⟩
      have X2 := Lib.hid (X1.out.after b2)
      clear X1 b2 c0 c1 c2 c3 c4 c5 c6 R
      go_wp2_with fail
      go_ret
      exact ⟨rfl, X2.out.1⟩
    · rw [h2] at R
      cases h3 : (size == 8) <;> cases h4 : (v.k == 1) <;>
      (go_enter Try.func35, Try.ntmps35
       go_wp2_with fail
       refine (K.out _).mono ?_; rintro e w1 ⟨rfl, b1⟩
       have X1 := Lib.hid (X0.out.after b1)
       clear X0 b1 c0 c1 c2 c3 c4 c5 c6 K h1
       obtain ⟨c0, c1, c2, c3, c4, c5, c6⟩ := vB.cells (X1.out.get (g := w.heap.size) (cs := vCells v) (t := 30) (by simp))
       go_wp2_with fail
       refine (R.out _).mono ?_; rintro e w2 ⟨rfl, b2⟩
       have X2 := Lib.hid (X1.out.after b2)
       clear X1 b2 c0 c1 c2 c3 c4 c5 c6 R
       obtain ⟨c0, c1, c2, c3, c4, c5, c6⟩ := vB.cells (X2.out.get (g := w.heap.size) (cs := vCells v) (t := 30) (by simp))
       go_wp2_with fail
       go_ret
       exact ⟨rfl, X2.out.1⟩)
  · rw [h1] at K
    simp only [Bool.not_true, Bool.false_and] at K ⊢
    go_enter Try.func35, Try.ntmps35
    go_wp2_with fail
    refine (K.out _).mono ?_; rintro e w1 ⟨rfl, b1⟩
    have X1 := Lib.hid (X0.out.after b1)
    clear X0 b1 c0 c1 c2 c3 c4 c5 c6 K h1
    go_wp2_with fail
    go_ret
    exact ⟨rfl, X1.out.1⟩

end Go.Proofs.Ytdgckjkdimnpoaa

namespace Go.Proofs.Ytdgckjkdimnpoaa
open Go Go.RowKit
set_option maxRecDepth 100000
set_option linter.unusedVariables false
set_option linter.unusedSimpArgs false

def slIn (y : Sl) : Prop := vIn y.v
theorem Blk.eight {g : Nat} {t : TypeId} {y : Sl} {w : World} (h : Blk g (slC y) t w) : w.cell? ⟨g, 0, none⟩ = some (.int .u8 y.v.k) ∧ w.cell? ⟨g, 1, none⟩ = some (uV y.v.n.1.1) ∧ w.cell? ⟨g, 2, none⟩ = some (uV y.v.n.1.2) ∧ w.cell? ⟨g, 3, none⟩ = some (.int .u64 y.v.n.2.1) ∧ w.cell? ⟨g, 4, none⟩ = some (.int .u64 y.v.n.2.2) ∧ w.cell? ⟨g, 5, none⟩ = some (.int .i64 y.v.i) ∧ w.cell? ⟨g, 6, none⟩ = some (.int .i64 y.v.o) ∧ w.cell? ⟨g, 7, none⟩ = some (bV y.p) :=
  ⟨Blk.cell h 0, Blk.cell h 1, Blk.cell h 2, Blk.cell h 3, Blk.cell h 4, Blk.cell h 5, Blk.cell h 6, Blk.cell h 7⟩
set_option maxHeartbeats 8000000 in
theorem sp_isRightSlot (y : Sl) (w : World) (hy : slIn y) : Calls Try.prog 29 #[slV y] w (Gives (.bool (slR y)) w) := by
  have K := Lib.hid (sp_isKnown y.v)
  have R := Lib.hid fun w => vp_right y.v w hy
  have X0 := Lib.hid ((Blks.start w).new (slC y) 33)
  obtain ⟨c0, c1, c2, c3, c4, c5, c6, c7⟩ := Blk.eight (X0.out.get (g := w.heap.size) (cs := slC y) (t := 33) (by simp))
  unfold slR
  cases h1 : vR y.v
  · rw [h1] at R
    go_enter Try.func29, Try.ntmps29
    go_wp2_with fail
    refine (R.out _).mono ?_; rintro e w1 ⟨rfl, b1⟩
    have X1 := Lib.hid (X0.out.after b1)
    clear X0 b1 c0 c1 c2 c3 c4 c5 c6 c7 R
    go_wp2_with fail
    go_ret
    exact ⟨rfl, X1.out.1⟩
  · rw [h1] at R
    have q := b8_eq255 y.p
    cases h2 : (y.v.k == 0) <;> cases h3 : (y.p == 255#8) <;> rw [h3] at q <;> rw [h2] at K <;>
    (go_enter Try.func29, Try.ntmps29
     go_wp2_with fail
     refine (R.out _).mono ?_; rintro e w1 ⟨rfl, b1⟩
     have X1 := Lib.hid (X0.out.after b1)
     clear X0 b1 c0 c1 c2 c3 c4 c5 c6 c7 R
     obtain ⟨c0, c1, c2, c3, c4, c5, c6, c7⟩ := Blk.eight (X1.out.get (g := w.heap.size) (cs := slC y) (t := 33) (by simp))
     go_wp2_with fail
     refine (K.out _).mono ?_; rintro e w2 ⟨rfl, b2⟩
     have X2 := Lib.hid (X1.out.after b2)
     clear X1 b2 c0 c1 c2 c3 c4 c5 c6 c7 K
     obtain ⟨c0, c1, c2, c3, c4, c5, c6, c7⟩ := Blk.eight (X2.out.get (g := w.heap.size) (cs := slC y) (t := 33) (by simp))
     go_wp2_with fail
     go_ret
     exact ⟨rfl, X2.out.1⟩)
theorem pAll_iff (p b : BitVec 8) : pAll p b = (b &&& ~~~p == 0#8) := by
  unfold pAll
  rw [Bool.eq_iff_iff, beq_iff_eq, beq_iff_eq]
  constructor
  · intro h
    rw [← h]
    apply BitVec.eq_of_getLsbD_eq
    intro i hi
    simp [BitVec.getLsbD_and, BitVec.getLsbD_not]
    intro h1 _ _
    exact h1
  · intro h
    apply BitVec.eq_of_getLsbD_eq
    intro i hi
    have := congrArg (fun x => x.getLsbD i) h
    simp [BitVec.getLsbD_and, BitVec.getLsbD_not, hi] at this ⊢
    exact this
theorem vW_known {a b : Vl} (hb : (b.k == 0) = false) (h : (a.k == 0) = true) : vW a b = false := by
  have ha := beq_iff_eq.mp h
  have hne : vEq a b = false := by
    rw [Bool.eq_false_iff]
    intro e
    rw [vEq_iff] at e
    subst e
    rw [hb] at h; cases h
  unfold vW
  rw [hb, hne, ha]
  simp
set_option maxHeartbeats 8000000 in
theorem sp_isWithinSlot (a b : Sl) (w : World) (ha : slIn a) (hb : slIn b) : Calls Try.prog 31 #[slV a, slV b] w (Gives (.bool (slW a b)) w) := by
  have K := Lib.hid (sp_isKnown b.v)
  have H := Lib.hid (sp_hasAll a.p b.p)
  have V := Lib.hid fun w => vp_within a.v b.v w ha hb
  have X0 := Lib.hid (((Blks.start w).new (slC a) 33).new (slC b) 33)
  unfold slW
  rw [← pAll_iff]
  have hz : (w.alloc (.cells (slC a) 33)).heap.size = w.heap.size + 1 := by simp
  rw [hz] at X0
  obtain ⟨d0, d1, d2, d3, d4, d5, d6, d7⟩ := Blk.eight (X0.out.get (g := w.heap.size + 1) (cs := slC b) (t := 33) (by simp))
  cases h2 : (b.v.k == 0) <;> rw [h2] at K
  · rw [if_neg Bool.false_ne_true]
    go_enter Try.func31, Try.ntmps31
    go_wp2_with fail
    refine (K.out _).mono ?_; rintro e w1 ⟨rfl, b1⟩
    have X1 := Lib.hid (X0.out.after b1)
    clear X0 b1 d0 d1 d2 d3 d4 d5 d6 d7 K
    obtain ⟨d0, d1, d2, d3, d4, d5, d6, d7⟩ := Blk.eight (X1.out.get (g := w.heap.size + 1) (cs := slC b) (t := 33) (by simp))
    obtain ⟨c0, c1, c2, c3, c4, c5, c6, c7⟩ := Blk.eight (X1.out.get (g := w.heap.size) (cs := slC a) (t := 33) (by simp))
    go_wp2_with fail
    refine (V.out _).mono ?_; rintro e w2 ⟨rfl, b2⟩
    have X2 := Lib.hid (X1.out.after b2)
    clear X1 b2 c0 c1 c2 c3 c4 c5 c6 c7 d0 d1 d2 d3 d4 d5 d6 d7 V
    go_wp2_with fail
    go_ret
    exact ⟨rfl, X2.out.1⟩
  · rw [if_pos rfl]
    go_enter Try.func31, Try.ntmps31
    go_wp2_with fail
    refine (K.out _).mono ?_; rintro e w1 ⟨rfl, b1⟩
    have X1 := Lib.hid (X0.out.after b1)
    clear X0 b1 d0 d1 d2 d3 d4 d5 d6 d7 K
    have d7 := (Blk.eight (X1.out.get (g := w.heap.size + 1) (cs := slC b) (t := 33) (by simp))).2.2.2.2.2.2.2
    have c7 := (Blk.eight (X1.out.get (g := w.heap.size) (cs := slC a) (t := 33) (by simp))).2.2.2.2.2.2.2
    go_wp2_with fail
    refine (H.out _).mono ?_; rintro e w2 ⟨rfl, b2⟩
    have X2 := Lib.hid (X1.out.after b2)
    clear X1 b2 c7 d7 H
    go_wp2_with fail
    go_ret
    exact ⟨rfl, X2.out.1⟩
set_option maxHeartbeats 8000000 in
theorem sr_slot (a b : Sl) (w : World) (ha : slIn a) (hb : slIn b) : Calls Try.prog 33 #[slV a, slV b] w (Gives (.bool (slW a b)) w) := by
  have V := Lib.hid fun w => rv_within a.v b.v w ha hb
  have X0 := Lib.hid (((Blks.start w).new (slC a) 33).new (slC b) 33)
  unfold slW
  have hz : (w.alloc (.cells (slC a) 33)).heap.size = w.heap.size + 1 := by simp
  rw [hz] at X0
  obtain ⟨d0, d1, d2, d3, d4, d5, d6, d7⟩ := Blk.eight (X0.out.get (g := w.heap.size + 1) (cs := slC b) (t := 33) (by simp))
  obtain ⟨c0, c1, c2, c3, c4, c5, c6, c7⟩ := Blk.eight (X0.out.get (g := w.heap.size) (cs := slC a) (t := 33) (by simp))
  cases h2 : (b.v.k == 0)
  · rw [if_neg Bool.false_ne_true]
    cases h3 : (a.v.k == 0)
    · have h3' : (a.v.k != 0) = true := by simp [bne, h3]
      go_enter Try.func33, Try.ntmps33
      go_wp2_with fail
      refine (V.out _).mono ?_; rintro e w2 ⟨rfl, b2⟩
      have X2 := Lib.hid (X0.out.after b2)
      clear X0 b2 c0 c1 c2 c3 c4 c5 c6 c7 d0 d1 d2 d3 d4 d5 d6 d7 V
      go_wp2_with fail
      go_ret
      exact ⟨rfl, X2.out.1⟩
    · have h3' : (a.v.k != 0) = false := by simp [bne, h3]
      rw [vW_known h2 h3]
      go_enter Try.func33, Try.ntmps33
      go_wp2_with fail
      go_ret
      exact ⟨rfl, X0.out.1⟩
  · rw [if_pos rfl]
    go_enter Try.func33, Try.ntmps33
    go_wp2_with fail
    go_ret
    refine ⟨end_bool ?_, X0.out.1⟩
    show (bits BinOp.andNot IntKind.u8 (b.p.toNat : Int) (a.p.toNat : Int) == 0) = _
    rw [b8_andNot, b8_eq0]

theorem belF_in {size : Int} (hs : isSz size = true) : fIn (belF size) := by
  rcases isSz_iff.mp hs with rfl | rfl | rfl | rfl <;> exact ⟨⟨by decide, by decide⟩, ⟨by decide, by decide⟩⟩
theorem stS_in {f g : Fc} (hf : fIn f) (h : fS f = some g) : fIn g := by
  obtain ⟨hr, he⟩ := fS_some h
  exact (fE_ind (P := fIn) (fun _ _ _ hp => rd_in hp) _ f g (Nat.le_refl _) hr hf he).1
theorem getD_in {f : Fc} (hf : fIn f) : fIn ((fS f).getD fZ) := by
  cases h : fS f with
  | none => exact fOf_in 0#64
  | some g => exact stS_in hf h
theorem any_lit : fV fAny = .agg #[.int .u64 0, .int .u64 18446744073709551615, .int .u64 0, .int .u64 18446744073709551615] := by
  unfold fAny sAll
  simp
set_option maxHeartbeats 8000000 in
theorem sp_number (size : Int) (hs : isSz size = true) (w : World) : Calls Try.prog 43 #[.int .i64 size] w (Gives (vV (bel size)) w) := by
  have A := Lib.hid fp_any
  rw [any_lit] at A
  have S := Lib.hid fun w => fp_settle (belF size) w (belF_in hs)
  have N := Lib.hid fun w => vp_num ((fS (belF size)).getD fZ) w (getD_in (belF_in hs))
  unfold bel
  generalize (fS (belF size)).getD fZ = G at *
  generalize (fS (belF size)).isSome = K at *
  generalize vNum G = V at *
  have X0 := Lib.hid ((Blks.start w).new vZc 30)
  rcases isSz_iff.mp hs with rfl | rfl | rfl | rfl
  · go_enter Try.func43, Try.ntmps43
    go_wp2_with fail
    refine (A.out _).mono ?_; rintro e w1 ⟨rfl, b1⟩
    have X1 := Lib.hid ((X0.out.after b1).new #[.int .u64 0, .int .u64 18446744073709551615, .int .u64 0, .int .u64 255] 28)
    have hl := Lib.hid (Blk.lt ((X0.out.after b1).get (g := w.heap.size) (cs := vZc) (t := 30) (by simp)))
    clear X0 b1 A
    go_wp2_with fail
    generalize w1.alloc (.cells #[.int .u64 0, .int .u64 18446744073709551615, .int .u64 0, .int .u64 255] 28) = w2 at *
    generalize w1.heap.size = g1 at *
    refine (S.out _).mono ?_; rintro e w3 ⟨rfl, b3⟩
    have X3 := Lib.hid (X1.out.after b3)
    clear X1 b3 S
    have Y3 := X3.out.get (g := g1) (cs := #[.int .u64 0, .int .u64 18446744073709551615, .int .u64 0, .int .u64 255]) (t := 28) (by simp)
    have Z3 := X3.out.get (g := w.heap.size) (cs := vZc) (t := 30) (by simp)
    have c0 : w3.cell? ⟨g1, 0, none⟩ = some (.int .u64 0) := Blk.cell Y3 0
    have c1 : w3.cell? ⟨g1, 1, none⟩ = some (.int .u64 18446744073709551615) := Blk.cell Y3 1
    have c2 : w3.cell? ⟨g1, 2, none⟩ = some (.int .u64 0) := Blk.cell Y3 2
    have c3 : w3.cell? ⟨g1, 3, none⟩ = some (.int .u64 255) := Blk.cell Y3 3
    have f0 := Blk.free Y3 0
    have f1 := Blk.free Y3 1
    have f2 := Blk.free Y3 2
    have f3 := Blk.free Y3 3
    have hne : w.heap.size ≠ g1 := by have := hl.out; omega
    have Z4 := Lib.hid (((((Z3.other (o := 0) (uV G.1.1) hne).other (o := 1) (uV G.1.2) hne).other (o := 2) (.int .u64 G.2.1) hne).other (o := 3) (.int .u64 G.2.2) hne))
    have B4 := Lib.hid ((((X3.out.1.setCell (p := ⟨g1, 0, none⟩) (by have := hl.out; dsimp only; omega) (uV G.1.1)).setCell (p := ⟨g1, 1, none⟩) (by have := hl.out; dsimp only; omega) (uV G.1.2)).setCell (p := ⟨g1, 2, none⟩) (by have := hl.out; dsimp only; omega) (.int .u64 G.2.1)).setCell (p := ⟨g1, 3, none⟩) (by have := hl.out; dsimp only; omega) (.int .u64 G.2.2))
    clear X3 Y3 Z3 hne
    go_wp2_with fail
    clear c0 c1 c2 c3 f0 f1 f2 f3
    generalize (((w3.setCell ⟨g1, 0, none⟩ (uV G.1.1)).setCell ⟨g1, 1, none⟩ (uV G.1.2)).setCell ⟨g1, 2, none⟩ (.int .u64 G.2.1)).setCell ⟨g1, 3, none⟩ (.int .u64 G.2.2) = w4 at *
    refine (N.out _).mono ?_; rintro e w5 ⟨rfl, b5⟩
    have Z5 := Z4.out.after b5
    have B5 := Lib.hid (below_next' B4.out b5)
    clear Z4 B4 b5 N
    obtain ⟨y0, y1, y2, y3, y4, y5, y6⟩ := Blk.seven Z5
    obtain ⟨f0, f1, f2, f3, f4, f5, f6⟩ := vj_free Z5
    have BB := Lib.hid fun a b c d e f g => below_vals (k := w.heap.size) B5.out (by omega) a b c d e f g
    go_wp2_with fail
    exact bodyPost_ret (v := vV V) (by simp [results, Try.results43, go_sem, y0, y1, y2, y3, y4, y5, y6]) rfl ⟨rfl, BB.out _ _ _ _ _ _ _⟩
  · go_enter Try.func43, Try.ntmps43
    go_wp2_with fail
    refine (A.out _).mono ?_; rintro e w1 ⟨rfl, b1⟩
    have X1 := Lib.hid ((X0.out.after b1).new #[.int .u64 0, .int .u64 18446744073709551615, .int .u64 0, .int .u64 65535] 28)
    have hl := Lib.hid (Blk.lt ((X0.out.after b1).get (g := w.heap.size) (cs := vZc) (t := 30) (by simp)))
    clear X0 b1 A
    go_wp2_with fail
    generalize w1.alloc (.cells #[.int .u64 0, .int .u64 18446744073709551615, .int .u64 0, .int .u64 65535] 28) = w2 at *
    generalize w1.heap.size = g1 at *
    refine (S.out _).mono ?_; rintro e w3 ⟨rfl, b3⟩
    have X3 := Lib.hid (X1.out.after b3)
    clear X1 b3 S
    have Y3 := X3.out.get (g := g1) (cs := #[.int .u64 0, .int .u64 18446744073709551615, .int .u64 0, .int .u64 65535]) (t := 28) (by simp)
    have Z3 := X3.out.get (g := w.heap.size) (cs := vZc) (t := 30) (by simp)
    have c0 : w3.cell? ⟨g1, 0, none⟩ = some (.int .u64 0) := Blk.cell Y3 0
    have c1 : w3.cell? ⟨g1, 1, none⟩ = some (.int .u64 18446744073709551615) := Blk.cell Y3 1
    have c2 : w3.cell? ⟨g1, 2, none⟩ = some (.int .u64 0) := Blk.cell Y3 2
    have c3 : w3.cell? ⟨g1, 3, none⟩ = some (.int .u64 65535) := Blk.cell Y3 3
    have f0 := Blk.free Y3 0
    have f1 := Blk.free Y3 1
    have f2 := Blk.free Y3 2
    have f3 := Blk.free Y3 3
    have hne : w.heap.size ≠ g1 := by have := hl.out; omega
    have Z4 := Lib.hid (((((Z3.other (o := 0) (uV G.1.1) hne).other (o := 1) (uV G.1.2) hne).other (o := 2) (.int .u64 G.2.1) hne).other (o := 3) (.int .u64 G.2.2) hne))
    have B4 := Lib.hid ((((X3.out.1.setCell (p := ⟨g1, 0, none⟩) (by have := hl.out; dsimp only; omega) (uV G.1.1)).setCell (p := ⟨g1, 1, none⟩) (by have := hl.out; dsimp only; omega) (uV G.1.2)).setCell (p := ⟨g1, 2, none⟩) (by have := hl.out; dsimp only; omega) (.int .u64 G.2.1)).setCell (p := ⟨g1, 3, none⟩) (by have := hl.out; dsimp only; omega) (.int .u64 G.2.2))
    clear X3 Y3 Z3 hne
    go_wp2_with fail
    clear c0 c1 c2 c3 f0 f1 f2 f3
    generalize (((w3.setCell ⟨g1, 0, none⟩ (uV G.1.1)).setCell ⟨g1, 1, none⟩ (uV G.1.2)).setCell ⟨g1, 2, none⟩ (.int .u64 G.2.1)).setCell ⟨g1, 3, none⟩ (.int .u64 G.2.2) = w4 at *
    refine (N.out _).mono ?_; rintro e w5 ⟨rfl, b5⟩
    have Z5 := Z4.out.after b5
    have B5 := Lib.hid (below_next' B4.out b5)
    clear Z4 B4 b5 N
    obtain ⟨y0, y1, y2, y3, y4, y5, y6⟩ := Blk.seven Z5
    obtain ⟨f0, f1, f2, f3, f4, f5, f6⟩ := vj_free Z5
    have BB := Lib.hid fun a b c d e f g => below_vals (k := w.heap.size) B5.out (by omega) a b c d e f g
    go_wp2_with fail
    exact bodyPost_ret (v := vV V) (by simp [results, Try.results43, go_sem, y0, y1, y2, y3, y4, y5, y6]) rfl ⟨rfl, BB.out _ _ _ _ _ _ _⟩
  · go_enter Try.func43, Try.ntmps43
    go_wp2_with fail
    refine (A.out _).mono ?_; rintro e w1 ⟨rfl, b1⟩
    have X1 := Lib.hid ((X0.out.after b1).new #[.int .u64 0, .int .u64 18446744073709551615, .int .u64 0, .int .u64 4294967295] 28)
    have hl := Lib.hid (Blk.lt ((X0.out.after b1).get (g := w.heap.size) (cs := vZc) (t := 30) (by simp)))
    clear X0 b1 A
    go_wp2_with fail
    generalize w1.alloc (.cells #[.int .u64 0, .int .u64 18446744073709551615, .int .u64 0, .int .u64 4294967295] 28) = w2 at *
    generalize w1.heap.size = g1 at *
    refine (S.out _).mono ?_; rintro e w3 ⟨rfl, b3⟩
    have X3 := Lib.hid (X1.out.after b3)
    clear X1 b3 S
    have Y3 := X3.out.get (g := g1) (cs := #[.int .u64 0, .int .u64 18446744073709551615, .int .u64 0, .int .u64 4294967295]) (t := 28) (by simp)
    have Z3 := X3.out.get (g := w.heap.size) (cs := vZc) (t := 30) (by simp)
    have c0 : w3.cell? ⟨g1, 0, none⟩ = some (.int .u64 0) := Blk.cell Y3 0
    have c1 : w3.cell? ⟨g1, 1, none⟩ = some (.int .u64 18446744073709551615) := Blk.cell Y3 1
    have c2 : w3.cell? ⟨g1, 2, none⟩ = some (.int .u64 0) := Blk.cell Y3 2
    have c3 : w3.cell? ⟨g1, 3, none⟩ = some (.int .u64 4294967295) := Blk.cell Y3 3
    have f0 := Blk.free Y3 0
    have f1 := Blk.free Y3 1
    have f2 := Blk.free Y3 2
    have f3 := Blk.free Y3 3
    have hne : w.heap.size ≠ g1 := by have := hl.out; omega
    have Z4 := Lib.hid (((((Z3.other (o := 0) (uV G.1.1) hne).other (o := 1) (uV G.1.2) hne).other (o := 2) (.int .u64 G.2.1) hne).other (o := 3) (.int .u64 G.2.2) hne))
    have B4 := Lib.hid ((((X3.out.1.setCell (p := ⟨g1, 0, none⟩) (by have := hl.out; dsimp only; omega) (uV G.1.1)).setCell (p := ⟨g1, 1, none⟩) (by have := hl.out; dsimp only; omega) (uV G.1.2)).setCell (p := ⟨g1, 2, none⟩) (by have := hl.out; dsimp only; omega) (.int .u64 G.2.1)).setCell (p := ⟨g1, 3, none⟩) (by have := hl.out; dsimp only; omega) (.int .u64 G.2.2))
    clear X3 Y3 Z3 hne
    go_wp2_with fail
    clear c0 c1 c2 c3 f0 f1 f2 f3
    generalize (((w3.setCell ⟨g1, 0, none⟩ (uV G.1.1)).setCell ⟨g1, 1, none⟩ (uV G.1.2)).setCell ⟨g1, 2, none⟩ (.int .u64 G.2.1)).setCell ⟨g1, 3, none⟩ (.int .u64 G.2.2) = w4 at *
    refine (N.out _).mono ?_; rintro e w5 ⟨rfl, b5⟩
    have Z5 := Z4.out.after b5
    have B5 := Lib.hid (below_next' B4.out b5)
    clear Z4 B4 b5 N
    obtain ⟨y0, y1, y2, y3, y4, y5, y6⟩ := Blk.seven Z5
    obtain ⟨f0, f1, f2, f3, f4, f5, f6⟩ := vj_free Z5
    have BB := Lib.hid fun a b c d e f g => below_vals (k := w.heap.size) B5.out (by omega) a b c d e f g
    go_wp2_with fail
    exact bodyPost_ret (v := vV V) (by simp [results, Try.results43, go_sem, y0, y1, y2, y3, y4, y5, y6]) rfl ⟨rfl, BB.out _ _ _ _ _ _ _⟩
  · go_enter Try.func43, Try.ntmps43
    go_wp2_with fail
    refine (A.out _).mono ?_; rintro e w1 ⟨rfl, b1⟩
    have X1 := Lib.hid ((X0.out.after b1).new #[.int .u64 0, .int .u64 18446744073709551615, .int .u64 0, .int .u64 18446744073709551615] 28)
    have hl := Lib.hid (Blk.lt ((X0.out.after b1).get (g := w.heap.size) (cs := vZc) (t := 30) (by simp)))
    clear X0 b1 A
    go_wp2_with fail
    generalize w1.alloc (.cells #[.int .u64 0, .int .u64 18446744073709551615, .int .u64 0, .int .u64 18446744073709551615] 28) = w2 at *
    generalize w1.heap.size = g1 at *
    refine (S.out _).mono ?_; rintro e w3 ⟨rfl, b3⟩
    have X3 := Lib.hid (X1.out.after b3)
    clear X1 b3 S
    have Y3 := X3.out.get (g := g1) (cs := #[.int .u64 0, .int .u64 18446744073709551615, .int .u64 0, .int .u64 18446744073709551615]) (t := 28) (by simp)
    have Z3 := X3.out.get (g := w.heap.size) (cs := vZc) (t := 30) (by simp)
    have c0 : w3.cell? ⟨g1, 0, none⟩ = some (.int .u64 0) := Blk.cell Y3 0
    have c1 : w3.cell? ⟨g1, 1, none⟩ = some (.int .u64 18446744073709551615) := Blk.cell Y3 1
    have c2 : w3.cell? ⟨g1, 2, none⟩ = some (.int .u64 0) := Blk.cell Y3 2
    have c3 : w3.cell? ⟨g1, 3, none⟩ = some (.int .u64 18446744073709551615) := Blk.cell Y3 3
    have f0 := Blk.free Y3 0
    have f1 := Blk.free Y3 1
    have f2 := Blk.free Y3 2
    have f3 := Blk.free Y3 3
    have hne : w.heap.size ≠ g1 := by have := hl.out; omega
    have Z4 := Lib.hid (((((Z3.other (o := 0) (uV G.1.1) hne).other (o := 1) (uV G.1.2) hne).other (o := 2) (.int .u64 G.2.1) hne).other (o := 3) (.int .u64 G.2.2) hne))
    have B4 := Lib.hid ((((X3.out.1.setCell (p := ⟨g1, 0, none⟩) (by have := hl.out; dsimp only; omega) (uV G.1.1)).setCell (p := ⟨g1, 1, none⟩) (by have := hl.out; dsimp only; omega) (uV G.1.2)).setCell (p := ⟨g1, 2, none⟩) (by have := hl.out; dsimp only; omega) (.int .u64 G.2.1)).setCell (p := ⟨g1, 3, none⟩) (by have := hl.out; dsimp only; omega) (.int .u64 G.2.2))
    clear X3 Y3 Z3 hne
    go_wp2_with fail
    clear c0 c1 c2 c3 f0 f1 f2 f3
    generalize (((w3.setCell ⟨g1, 0, none⟩ (uV G.1.1)).setCell ⟨g1, 1, none⟩ (uV G.1.2)).setCell ⟨g1, 2, none⟩ (.int .u64 G.2.1)).setCell ⟨g1, 3, none⟩ (.int .u64 G.2.2) = w4 at *
    refine (N.out _).mono ?_; rintro e w5 ⟨rfl, b5⟩
    have Z5 := Z4.out.after b5
    have B5 := Lib.hid (below_next' B4.out b5)
    clear Z4 B4 b5 N
    obtain ⟨y0, y1, y2, y3, y4, y5, y6⟩ := Blk.seven Z5
    obtain ⟨f0, f1, f2, f3, f4, f5, f6⟩ := vj_free Z5
    have BB := Lib.hid fun a b c d e f g => below_vals (k := w.heap.size) B5.out (by omega) a b c d e f g
    go_wp2_with fail
    exact bodyPost_ret (v := vV V) (by simp [results, Try.results43, go_sem, y0, y1, y2, y3, y4, y5, y6]) rfl ⟨rfl, BB.out _ _ _ _ _ _ _⟩

end Go.Proofs.Ytdgckjkdimnpoaa

namespace Go.Proofs.Ytdgckjkdimnpoaa
open Go Go.RowKit
set_option maxRecDepth 100000
set_option linter.unusedVariables false
set_option linter.unusedSimpArgs false

set_option maxHeartbeats 8000000 in
theorem sr_below (size : Int) (hs : isSz size = true) (w : World) : Calls Try.prog 44 #[.int .i64 size] w (Gives (vV (bel size)) w) := by
  have S := Lib.hid fun w => rf_settle (belF size) w (belF_in hs)
  have N := Lib.hid fun w => rv_num ((fS (belF size)).getD fZ) w (getD_in (belF_in hs))
  unfold bel
  generalize (fS (belF size)).getD fZ = G at *
  generalize (fS (belF size)).isSome = K at *
  generalize vNum G = V at *
  have X0 := Lib.hid ((Blks.start w).new vZc 30)
  rcases isSz_iff.mp hs with rfl | rfl | rfl | rfl <;>
  (go_enter Try.func44, Try.ntmps44
   go_wp2_with fail
   refine (S.out _).mono ?_; rintro e w1 ⟨rfl, b1⟩
   have X1 := Lib.hid ((X0.out.after b1).new (fCells G) 28)
   clear X0 b1 S
   go_wp2_with fail
   generalize w1.alloc (.cells (fCells G) 28) = w2 at *
   generalize w1.heap.size = g1 at *
   refine (N.out _).mono ?_; rintro e w5 ⟨rfl, b5⟩
   have Z5 := (X1.out.after b5).get (g := w.heap.size) (cs := vZc) (t := 30) (by simp)
   have B5 := Lib.hid (X1.out.after b5).1
   clear X1 b5 N
   obtain ⟨y0, y1, y2, y3, y4, y5, y6⟩ := Blk.seven Z5
   obtain ⟨f0, f1, f2, f3, f4, f5, f6⟩ := vj_free Z5
   have BB := Lib.hid fun a b c d e f g => below_vals (k := w.heap.size) B5.out (by omega) a b c d e f g
   go_wp2_with fail
   exact bodyPost_ret (v := vV V) (by simp [results, Try.results44, go_sem, y0, y1, y2, y3, y4, y5, y6]) rfl ⟨rfl, BB.out _ _ _ _ _ _ _⟩)
theorem stC_put (x : St) {i : Nat} (hi : i < 64) : (stC x)[77 + i * 8 + 7]? = some (bV (x.s i).p) := by
  rw [show 77 + i * 8 + 7 = 77 + 8 * i + 7 by omega, stC_at x hi (by omega)]
  rfl
theorem bit_test : ∀ p : BitVec 8, ∀ r : Fin 8, (((p.toNat : Int) / 2 ^ r.val) % 2 == 1) = pAll p (((1#8 <<< 1) - 1#8) <<< r.val) := by decide +kernel
set_option maxHeartbeats 8000000 in
theorem sr_put (x : St) (o : Nat) (ho : o < 512) (w : World) : Calls Try.prog 40 #[stV x, .int .i64 o] w (Gives (.bool (pAt x o)) w) := by
  obtain ⟨q, r, e1, e2, hq, hr⟩ : ∃ q r : Nat, (o : Int).tdiv 8 = (q : Int) ∧ (o : Int).tmod 8 = (r : Int) ∧ q < 64 ∧ r < 8 := ⟨o / 8, o % 8, by rw [Int.tdiv_eq_ediv_of_nonneg (by omega)]; omega, by rw [Int.tmod_eq_emod_of_nonneg (by omega)]; omega, by omega, by omega⟩
  have key : Hid (pAt x o = pAll (x.s q).p (((1#8 <<< 1) - 1#8) <<< r)) := Lib.hid (by
    rw [Int.tdiv_eq_ediv_of_nonneg (by omega)] at e1
    rw [Int.tmod_eq_emod_of_nonneg (by omega)] at e2
    unfold pAt pBits
    rw [show o / 8 = q by omega, e2]
    rfl)
  rw [key.out, ← bit_test (x.s q).p ⟨r, hr⟩]
  have X0 := Lib.hid (stB.new w x rfl)
  have B0 := Lib.hid (below_alloc (Below.refl w.heap.size w) (.cells (stC x) 36))
  have c7 := stC_put x hq
  have hq1 : (q : Int) < 64 := by omega
  have hr1 : ¬ (r : Int) < 0 := by omega
  go_enter Try.func40, Try.ntmps40
  go_wp2_with fail
  go_ret
  exact ⟨rfl, B0.out⟩

end Go.Proofs.Ytdgckjkdimnpoaa
