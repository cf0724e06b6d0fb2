/-
  Layer 7: where instructions begin, as the program and the document's own answers find it.
  Conditions: the numbers fit their kinds.
-/
import Derived.Test.YtplndcjmbgkcjaaCode7
import Derived.LoopTactic
import Derived.Laws.MakeOwn
import Derived.OwnWalk
namespace Go.Proofs.Ytplndcjmbgkcjaa
open Go.RowKit
set_option linter.unusedVariables false
set_option linter.unusedSimpArgs false

theorem made_bools (n : Nat) (hn : n ≤ 100000) (w : World) :
    (Instr.makeSlice 44 (.int .i64 (n : Int)) (.int .i64 (n : Int))).run Try.prog w = .ok (.slice (some ⟨w.heap.size, 0, none⟩) n n) (w.alloc (.cells (boolCells (List.replicate n false)) 4)) := by
  obtain ⟨i, hi, hz, h1, h2⟩ := info_parts (show (Try.prog.info? 4).map (fun i => (i.zero, i.size, i.bytes)) = some (some (.bool false), 1, 1) by kernel_rfl)
  have h := run_make (P := Try.prog) w 44 4 i (.bool false) Try.underlying44 hi hz .i64 .i64 n n (by omega) (by omega) (by rw [h2]; omega) (by omega)
  rw [h]
  have e : madeCells (Value.bool false).cells ((n : Int).toNat * i.size) = boolCells (List.replicate n false) := by
    rw [h1, Nat.mul_one, Int.toNat_natCast]
    apply Array.ext
    · simp [size_madeCells, boolCells]
    · intro j a1 a2
      simp [madeCells, boolCells, Value.cells, Nat.mod_one]
  rw [e, Int.toNat_natCast]
theorem begins_lt {l : List Ins} {p : Nat} (h : begins l p) (hp : p < l.length) : (stTo l p).set p true = stTo l (nxt l p) := stTo_set h hp
theorem nextOf_in {l : List Ins} {p : Nat} (hp : p < l.length) : nextOf l p = (nxt l p : Nat) := by
  unfold nextOf
  rw [if_neg (by omega), show ((p : Int)).toNat = p by omega]

set_option maxRecDepth 100000 in
set_option maxHeartbeats 1000000 in
theorem c7_Starts (l : List Ins) (A : Option Addr) (c : Nat) (w : World) (hl : l.length ≤ 100000) (h : InsS w A l) :
    Calls Try.prog 23 #[.slice A l.length c] w (RowOf (sts false l) w) := by
  have C := Lib.hid fun i w h => c7_Next l A c i w hl h
  have HI := Lib.hid h
  clear h
  have HL : Hid (l.length ≤ 100000) := Lib.hid hl
  generalize hn : l.length = n at *
  have HN := Lib.hid hn
  clear hn
  have hn0 : (0 : Int) ≤ n := by omega
  have hmk := made_bools n hl
  go_enter Try.func23, Try.ntmps23
  go_wp2_with fail
  clear hmk
  have P0 : Hid (Below w.heap.size w (w.alloc (.cells (boolCells (List.replicate n false)) 4)) ∧ bB w.heap.size (stTo l 0) (w.alloc (.cells (boolCells (List.replicate n false)) 4))) := Lib.hid ⟨below_alloc (Below.refl _ _) _, by rw [stTo_zero, HN.out]; exact bB.new w _ rfl⟩
  generalize w.alloc (.cells (boolCells (List.replicate n false)) 4) = w1 at *
  generalize hg : w.heap.size = g at *
  have HG := Lib.hid hg
  clear hg
  go_loopw [4] (fun i wr => ∃ p : Nat, i = .int .i64 p ∧ p ≤ n + 1 ∧ Hid (begins l p) ∧ Hid (Below g w wr ∧ bB g (stTo l p) wr)) (fun i wr => n + 2 - (intOf i).toNat)
  case atStart => exact ⟨0, rfl, by omega, Lib.hid (begins_zero l), P0⟩
  case round =>
    clear P0
    obtain ⟨p, rfl, hp, hb, HB⟩ := hrel
    have hp0 : (0 : Int) ≤ p := by omega
    by_cases hlt : (p : Int) < n
    · have hlt' : p < l.length := by rw [HN.out]; omega
      have c1 := HB.out.2.cell (k := p) (b := false) (by
        rw [stTo_at, stAt_get hlt', Option.map_some, decide_eq_false (by omega), Bool.and_false])
      have f1 := HB.out.2.free p
      have D := Lib.hid (C.out p)
      rw [nextOf_in hlt'] at D
      have HX : Hid (Below g w (wr.setCell ⟨g, p, none⟩ (.bool true)) ∧ bB g (stTo l (nxt l p)) (wr.setCell ⟨g, p, none⟩ (.bool true))) := Lib.hid ⟨HB.out.1.setCell (p := ⟨g, p, none⟩) (Nat.le_refl _) _, by
        rw [← begins_lt hb.out hlt']
        exact HB.out.2.set p true⟩
      have HY := Lib.hid (begins_step hb.out hlt').2.1
      have l1 := nxt_lt l p
      have l2 := nxt_le l p
      have L1 := Lib.hid l1
      have L2 := Lib.hid l2
      clear hb l1 l2
      go_wp2_with fail
      clear c1 f1
      refine (D.out _ (HI.out.after (HG.out ▸ HX.out.1))).mono ?_
      rintro e w5 ⟨rfl, b5⟩
      have HZ : Hid (Below g w w5 ∧ bB g (stTo l (nxt l p)) w5) := Lib.hid ⟨by
        have := below_next' (a := w) (HG.out ▸ HX.out.1) b5
        rwa [HG.out] at this, HX.out.2.after b5⟩
      clear b5 D
      generalize nxt l p = q at *
      have L3 := L1.out
      have L4 := L2.out
      go_wp2_with fail
      go_round
      case rel => exact ⟨q, rfl, by omega, HY, HZ⟩
      case measure => simp [intOf]; omega
    · have e : stTo l p = sts false l := stTo_all l (by rw [HN.out]; omega)
      rw [e] at HB
      clear e hb
      have HR : Hid (RowOf (sts false l) w (.returned (.slice (some ⟨g, 0, none⟩) n n)) wr) := Lib.hid ⟨g, by rw [sts_len, HN.out], by rw [HG.out]; exact Nat.le_refl _, HB.out.2, by rw [HG.out]; exact HB.out.1⟩
      go_wp2_with fail
      go_ret
      exact HR.out

set_option maxRecDepth 100000 in
set_option maxHeartbeats 1000000 in
theorem r7_Starts (l : List Ins) (A : Option Addr) (c : Nat) (w : World) (hl : l.length ≤ 100000) (h : InsS w A l) :
    Calls Try.prog 24 #[.slice A l.length c] w (RowOf (sts false l) w) := by
  have C := Lib.hid fun i w h => r7_Next l A c i w hl h
  have HI := Lib.hid h
  clear h
  have HL : Hid (l.length ≤ 100000) := Lib.hid hl
  generalize hn : l.length = n at *
  have HN := Lib.hid hn
  clear hn
  have hn0 : (0 : Int) ≤ n := by omega
  have hmk := made_bools n hl
  go_enter Try.func24, Try.ntmps24
  go_wp2_with fail
  clear hmk
  have P0 : Hid (Below w.heap.size w (w.alloc (.cells (boolCells (List.replicate n false)) 4)) ∧ bB w.heap.size (stTo l 0) (w.alloc (.cells (boolCells (List.replicate n false)) 4))) := Lib.hid ⟨below_alloc (Below.refl _ _) _, by rw [stTo_zero, HN.out]; exact bB.new w _ rfl⟩
  generalize w.alloc (.cells (boolCells (List.replicate n false)) 4) = w1 at *
  generalize hg : w.heap.size = g at *
  have HG := Lib.hid hg
  clear hg
  go_loopw [4] (fun i wr => ∃ p : Nat, i = .int .i64 p ∧ p ≤ n + 1 ∧ Hid (begins l p) ∧ Hid (Below g w wr ∧ bB g (stTo l p) wr)) (fun i wr => n + 2 - (intOf i).toNat)
  case atStart => exact ⟨0, rfl, by omega, Lib.hid (begins_zero l), P0⟩
  case round =>
    clear P0
    obtain ⟨p, rfl, hp, hb, HB⟩ := hrel
    have hp0 : (0 : Int) ≤ p := by omega
    by_cases hlt : (p : Int) < n
    · have hlt' : p < l.length := by rw [HN.out]; omega
      have c1 := HB.out.2.cell (k := p) (b := false) (by
        rw [stTo_at, stAt_get hlt', Option.map_some, decide_eq_false (by omega), Bool.and_false])
      have f1 := HB.out.2.free p
      have D := Lib.hid (C.out p)
      rw [nextOf_in hlt'] at D
      have HX : Hid (Below g w (wr.setCell ⟨g, p, none⟩ (.bool true)) ∧ bB g (stTo l (nxt l p)) (wr.setCell ⟨g, p, none⟩ (.bool true))) := Lib.hid ⟨HB.out.1.setCell (p := ⟨g, p, none⟩) (Nat.le_refl _) _, by
        rw [← begins_lt hb.out hlt']
        exact HB.out.2.set p true⟩
      have HY := Lib.hid (begins_step hb.out hlt').2.1
      have l1 := nxt_lt l p
      have l2 := nxt_le l p
      have L1 := Lib.hid l1
      have L2 := Lib.hid l2
      clear hb l1 l2
      go_wp2_with fail
      clear c1 f1
      refine (D.out _ (HI.out.after (HG.out ▸ HX.out.1))).mono ?_
      rintro e w5 ⟨rfl, b5⟩
      have HZ : Hid (Below g w w5 ∧ bB g (stTo l (nxt l p)) w5) := Lib.hid ⟨by
        have := below_next' (a := w) (HG.out ▸ HX.out.1) b5
        rwa [HG.out] at this, HX.out.2.after b5⟩
      clear b5 D
      generalize nxt l p = q at *
      have L3 := L1.out
      have L4 := L2.out
      go_wp2_with fail
      go_round
      case rel => exact ⟨q, rfl, by omega, HY, HZ⟩
      case measure => simp [intOf]; omega
    · have e : stTo l p = sts false l := stTo_all l (by rw [HN.out]; omega)
      rw [e] at HB
      clear e hb
      have HR : Hid (RowOf (sts false l) w (.returned (.slice (some ⟨g, 0, none⟩) n n)) wr) := Lib.hid ⟨g, by rw [sts_len, HN.out], by rw [HG.out]; exact Nat.le_refl _, HB.out.2, by rw [HG.out]; exact HB.out.1⟩
      go_wp2_with fail
      go_ret
      exact HR.out

end Go.Proofs.Ytplndcjmbgkcjaa
