/-
  The document's own answers of layer 7: whether a number is in a row.
  Conditions: the row lies in one block.
-/
import Derived.Test.YtplndcjmbgkcjaaInsRow
import Derived.LoopTactic
namespace Go.Proofs.Ytplndcjmbgkcjaa
open Go.RowKit
set_option linter.unusedVariables false

/-- The cells of bytes in a row. -/
abbrev byteCells (l : List Int) : Array Value := (l.map fun x => Value.int .u8 x).toArray
theorem byteCells_at (l : List Int) {k : Nat} (h : k < l.length) : (byteCells l)[k]? = some (.int .u8 (l.getD k 0)) := by
  simp [byteCells, List.getD_eq_getElem?_getD, List.getElem?_eq_getElem h]
theorem inB_step (l : List Int) (n : Int) (j : Nat) (h : j < l.length) : inB (l.drop j) n = (l.getD j 0 == n || inB (l.drop (j + 1)) n) := by
  rw [List.drop_eq_getElem_cons h]
  simp only [inB, List.any_cons, List.getD_eq_getElem?_getD, List.getElem?_eq_getElem h, Option.getD_some]

set_option maxHeartbeats 1000000 in
theorem r7_in (l : List Int) (g c : Nat) (t : TypeId) (n : Int) (w : World) (hl : l.length ≤ 100) (hb : Blk g (byteCells l) t w) :
    Calls Try.prog 58 #[.slice (some ⟨g, 0, none⟩) l.length c, .int .u8 n] w (Gives (.bool (inB l n)) w) := by
  have HC : Hid (∀ k, k < l.length → w.cell? ⟨g, k, none⟩ = some (.int .u8 (l.getD k 0))) := Lib.hid fun k hk => (Blk.cell hb k).trans (byteCells_at l hk)
  have hg := Blk.lt hb
  clear hb
  go_enter Try.func58, Try.ntmps58
  go_wp2_with fail
  go_loopw [5] (fun i wr => ∃ j : Nat, j ≤ l.length ∧ i = .int .i64 j ∧ Hid (inB (l.drop j) n = inB l n) ∧ Below w.heap.size w wr) (fun i wr => l.length - (intOf i).toNat)
  case atStart => exact ⟨0, by omega, rfl, Lib.hid rfl, Below.refl _ _⟩
  case round =>
    obtain ⟨j, hj, rfl, hp, hbw⟩ := hrel
    by_cases hlt : (j : Int) < l.length
    · have c1 := HC.out j (by omega)
      have hs := inB_step l n j (by omega)
      rw [hp.out] at hs
      generalize l.getD j 0 = x at *
      have d1 : wr.cell? ⟨g, j, none⟩ = some (.int .u8 x) := (hbw.cell (p := ⟨g, j, none⟩) hg).trans c1
      clear c1
      by_cases hx : x = n
      rotate_left 1
      · have HE : Hid (inB (l.drop (j + 1)) n = inB l n) := Lib.hid (by rw [hs, beq_false_of_ne hx]; rfl)
        clear hs hp
        go_wp2_with fail
        go_round
        case rel => exact ⟨j + 1, by omega, by go_num, HE, hbw⟩
        case measure => simp [intOf]; omega
      · have HE : Hid (inB l n = true) := Lib.hid (by rw [hs, beq_iff_eq.mpr hx]; rfl)
        clear hs hp
        subst hx
        go_wp2_with fail
        go_ret
        exact ⟨by rw [HE.out]; rfl, hbw⟩
    · have hj2 : j = l.length := by omega
      have hz : inB l n = false := by rw [← hp.out, hj2, List.drop_length]; rfl
      have HZ := Lib.hid hz
      clear hz hj2 hp
      go_wp2_with fail
      go_ret
      exact ⟨by rw [HZ.out]; rfl, hbw⟩

theorem or_ways (s a : Bool) : s = true ∨ (s = false ∧ a = true) ∨ (s = false ∧ a = false) := by cases s <;> cases a <;> simp
set_option maxHeartbeats 4000000 in
theorem r7_only (x : Ins) (s o i : Bool) (w : World) :
    Calls Try.prog 61 #[iV x, .bool s, .bool o, .bool i] w (Gives (.bool (onlyB x s o i)) w) := by
  have hx := Lib.hid (below_alloc (Below.refl w.heap.size w) (.cells (insCells x) 24))
  rcases or_ways s (x.src == 0) with rfl | ⟨rfl, h1⟩ | ⟨rfl, h1⟩
  · rcases or_ways o (x.off == 0) with rfl | ⟨rfl, h2⟩ | ⟨rfl, h2⟩
    · rcases or_ways i (x.imm == 0) with rfl | ⟨rfl, h3⟩ | ⟨rfl, h3⟩
      · rw [show onlyB x _ _ _ = true by unfold onlyB; simp [*]]
        go_enter Try.func61, Try.ntmps61
        go_wp2_with fail
        go_ret
        exact ⟨rfl, hx.out⟩
      · rw [show onlyB x _ _ _ = true by unfold onlyB; simp [*]]
        go_enter Try.func61, Try.ntmps61
        go_wp2_with fail
        go_ret
        exact ⟨rfl, hx.out⟩
      · rw [show onlyB x _ _ _ = false by unfold onlyB; simp [*]]
        go_enter Try.func61, Try.ntmps61
        go_wp2_with fail
        go_ret
        exact ⟨rfl, hx.out⟩
    · rcases or_ways i (x.imm == 0) with rfl | ⟨rfl, h3⟩ | ⟨rfl, h3⟩
      · rw [show onlyB x _ _ _ = true by unfold onlyB; simp [*]]
        go_enter Try.func61, Try.ntmps61
        go_wp2_with fail
        go_ret
        exact ⟨rfl, hx.out⟩
      · rw [show onlyB x _ _ _ = true by unfold onlyB; simp [*]]
        go_enter Try.func61, Try.ntmps61
        go_wp2_with fail
        go_ret
        exact ⟨rfl, hx.out⟩
      · rw [show onlyB x _ _ _ = false by unfold onlyB; simp [*]]
        go_enter Try.func61, Try.ntmps61
        go_wp2_with fail
        go_ret
        exact ⟨rfl, hx.out⟩
    · rw [show onlyB x _ _ _ = false by unfold onlyB; simp [*]]
      go_enter Try.func61, Try.ntmps61
      go_wp2_with fail
      go_ret
      exact ⟨rfl, hx.out⟩
  · rcases or_ways o (x.off == 0) with rfl | ⟨rfl, h2⟩ | ⟨rfl, h2⟩
    · rcases or_ways i (x.imm == 0) with rfl | ⟨rfl, h3⟩ | ⟨rfl, h3⟩
      · rw [show onlyB x _ _ _ = true by unfold onlyB; simp [*]]
        go_enter Try.func61, Try.ntmps61
        go_wp2_with fail
        go_ret
        exact ⟨rfl, hx.out⟩
      · rw [show onlyB x _ _ _ = true by unfold onlyB; simp [*]]
        go_enter Try.func61, Try.ntmps61
        go_wp2_with fail
        go_ret
        exact ⟨rfl, hx.out⟩
      · rw [show onlyB x _ _ _ = false by unfold onlyB; simp [*]]
        go_enter Try.func61, Try.ntmps61
        go_wp2_with fail
        go_ret
        exact ⟨rfl, hx.out⟩
    · rcases or_ways i (x.imm == 0) with rfl | ⟨rfl, h3⟩ | ⟨rfl, h3⟩
      · rw [show onlyB x _ _ _ = true by unfold onlyB; simp [*]]
        go_enter Try.func61, Try.ntmps61
        go_wp2_with fail
        go_ret
        exact ⟨rfl, hx.out⟩
      · rw [show onlyB x _ _ _ = true by unfold onlyB; simp [*]]
        go_enter Try.func61, Try.ntmps61
        go_wp2_with fail
        go_ret
        exact ⟨rfl, hx.out⟩
      · rw [show onlyB x _ _ _ = false by unfold onlyB; simp [*]]
        go_enter Try.func61, Try.ntmps61
        go_wp2_with fail
        go_ret
        exact ⟨rfl, hx.out⟩
    · rw [show onlyB x _ _ _ = false by unfold onlyB; simp [*]]
      go_enter Try.func61, Try.ntmps61
      go_wp2_with fail
      go_ret
      exact ⟨rfl, hx.out⟩
  · rw [show onlyB x _ _ _ = false by unfold onlyB; simp [*]]
    go_enter Try.func61, Try.ntmps61
    go_wp2_with fail
    go_ret
    exact ⟨rfl, hx.out⟩

theorem szFrom_step (l ns : List Int) (op : Int) (j : Nat) (h : j < l.length) (h' : j < ns.length) : szFrom (l.drop j) (ns.drop j) op = if l.getD j 0 = op then ns.getD j 0 else szFrom (l.drop (j + 1)) (ns.drop (j + 1)) op := by
  rw [List.drop_eq_getElem_cons h, List.drop_eq_getElem_cons h']
  simp only [szFrom, List.getD_eq_getElem?_getD, List.getElem?_eq_getElem h, List.getElem?_eq_getElem h', Option.getD_some]
set_option maxHeartbeats 1000000 in
theorem r7_sizes (l : List Int) (g c : Nat) (t : TypeId) (n : Int) (w : World) (hl : l.length ≤ 4) (hb : Blk g (byteCells l) t w) :
    Calls Try.prog 71 #[.slice (some ⟨g, 0, none⟩) l.length c, .int .u8 n] w (Gives (.int .i64 (szFrom l [4, 2, 1, 8] n)) w) := by
  have HC : Hid (∀ k, k < l.length → w.cell? ⟨g, k, none⟩ = some (.int .u8 (l.getD k 0))) := Lib.hid fun k hk => (Blk.cell hb k).trans (byteCells_at l hk)
  have hg := Blk.lt hb
  clear hb
  go_enter Try.func71, Try.ntmps71
  go_wp2_with fail
  have HN : Hid (∀ wr, Below (w.alloc (.cells #[.int .i64 4, .int .i64 2, .int .i64 1, .int .i64 8] 3)).heap.size (w.alloc (.cells #[.int .i64 4, .int .i64 2, .int .i64 1, .int .i64 8] 3)) wr → Below w.heap.size w wr ∧ ∀ k, k < 4 → wr.cell? ⟨w.heap.size, k, none⟩ = some (.int .i64 (([4, 2, 1, 8] : List Int).getD k 0))) := Lib.hid fun wr hr =>
    ⟨below_next' (below_alloc (Below.refl w.heap.size w) _) hr, fun k hk => by
      have h := Blk.cell ((Blk.new w #[.int .i64 4, .int .i64 2, .int .i64 1, .int .i64 8] 3 rfl).after hr) k
      rw [h]
      have hk' : k = 0 ∨ k = 1 ∨ k = 2 ∨ k = 3 := by omega
      rcases hk' with rfl | rfl | rfl | rfl <;> rfl⟩
  generalize hgn : w.heap.size = gn at *
  generalize w.alloc (.cells #[.int .i64 4, .int .i64 2, .int .i64 1, .int .i64 8] 3) = w1 at *
  go_loopw [6] (fun i wr => ∃ j : Nat, j ≤ l.length ∧ i = .int .i64 j ∧ Hid (szFrom (l.drop j) ([4, 2, 1, 8].drop j) n = szFrom l [4, 2, 1, 8] n) ∧ Below w1.heap.size w1 wr) (fun i wr => l.length - (intOf i).toNat)
  case atStart => exact ⟨0, by omega, rfl, Lib.hid rfl, Below.refl _ _⟩
  case round =>
    obtain ⟨j, hj, rfl, hp, hbw⟩ := hrel
    obtain ⟨hbo, hbn⟩ := HN.out wr hbw
    by_cases hlt : (j : Int) < l.length
    · have c1 := HC.out j (by omega)
      have c2 := hbn j (by omega)
      clear hbn
      have hs := szFrom_step l [4, 2, 1, 8] n j (by omega) (by simp; omega)
      rw [hp.out] at hs
      generalize l.getD j 0 = x at *
      generalize ([4, 2, 1, 8] : List Int).getD j 0 = y at *
      have d1 : wr.cell? ⟨g, j, none⟩ = some (.int .u8 x) := (hbo.cell (p := ⟨g, j, none⟩) hg).trans c1
      clear c1
      by_cases hx : x = n
      rotate_left 1
      · have HE : Hid (szFrom (l.drop (j + 1)) ([4, 2, 1, 8].drop (j + 1)) n = szFrom l [4, 2, 1, 8] n) := Lib.hid (by rw [hs, if_neg hx])
        clear hs hp
        go_wp2_with fail
        go_round
        case rel => exact ⟨j + 1, by omega, by go_num, HE, hbw⟩
        case measure => simp [intOf]; omega
      · have HE : Hid (szFrom l [4, 2, 1, 8] n = y) := Lib.hid (by rw [hs, if_pos hx])
        clear hs hp
        subst hx
        go_wp2_with fail
        go_ret
        exact ⟨by rw [HE.out]; rfl, hgn ▸ hbo⟩
    · have hj2 : j = l.length := by omega
      have hz : szFrom l [4, 2, 1, 8] n = 0 := by rw [← hp.out, hj2, List.drop_length]; rfl
      have HZ := Lib.hid hz
      clear hz hj2 hp hbn
      go_wp2_with fail
      go_ret
      exact ⟨by rw [HZ.out]; rfl, hgn ▸ hbo⟩

end Go.Proofs.Ytplndcjmbgkcjaa
