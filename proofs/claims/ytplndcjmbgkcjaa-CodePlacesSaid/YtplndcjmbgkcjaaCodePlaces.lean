/-
  P7.3: where instructions begin, where the next one does, and where one jumps to, is the document's: the walk of the statement CodePlaces.
  Conditions: none beyond the row's own.
-/
import Derived.Test.YtplndcjmbgkcjaaCodeShown
import Derived.Test.YtplndcjmbgkcjaaRef07h
import Derived.LoopTactic
import Derived.Deep.RegionHeld3
namespace Go.Proofs.Ytplndcjmbgkcjaa
open Go.RowKit
set_option linter.unusedVariables false
set_option linter.unusedSimpArgs false

set_option maxRecDepth 100000 in
set_option maxHeartbeats 4000000 in
theorem l7_CodePlaces (l : List Ins) (A : Option Addr) (c : Nat) (p : Int) (w : World) (h : InsS w A l) (hx : OkAll l) (hc : l.length ≤ c) (hm : c ≤ maxLen) : Calls Try.prog 6 #[.slice A l.length c, .int .i64 p] w (Fine w) := by
  have FE := Lib.hid fun w => l7_few l A c w hc hm
  have HI := Lib.hid (few_ins h)
  have HX := Lib.hid (few_ok hx)
  have HL := Lib.hid (few_len l)
  have HC : Hid ((fewL l).length ≤ c ∧ c ≤ maxLen) := Lib.hid ⟨Nat.le_trans (by unfold fewL; rw [List.length_take]; omega) hc, hm⟩
  clear h hx hc hm
  generalize l.length = n at *
  generalize fewL l = x at *
  clear l
  have hle : x.length ≤ 520 := HL.out
  have S1 := Lib.hid fun w h => c7_Starts x A c w (by have := HL.out; omega) h
  have S2 := Lib.hid fun w h => r7_Starts x A c w (by have := HL.out; omega) h
  have T1 := Lib.hid fun i w h => c7_Target x A c i w (by have := HL.out; omega) h HX.out
  have T2 := Lib.hid fun i w h => r7_Target x A c i w (by have := HL.out; omega) h HX.out
  have N1 := Lib.hid fun i w h => c7_Next x A c i w (by have := HL.out; omega) h
  have N2 := Lib.hid fun i w h => r7_Next x A c i w (by have := HL.out; omega) h
  have S := Lib.hid l7_shown
  have hsl := sts_len false x
  have HG : Hid (∀ j, j < x.length → (sts false x)[j]? = some (stAt x j)) := Lib.hid fun j hj => stAt_get hj
  generalize x.length = n at *
  generalize sts false x = sl at *
  have HSL := Lib.hid hsl
  clear hsl
  have hn0 : (0 : Int) ≤ n := by omega
  go_enter Try.func6, Try.ntmps6
  go_wp2_with fail
  refine (S.out _).mono ?_
  rintro e w4 ⟨rfl, b4⟩
  have V := Lib.hid b4
  clear b4
  go_wp2_with fail
  refine (FE.out _).mono ?_
  rintro e w5 ⟨rfl, b5⟩
  replace V := Lib.hid (below_next' V.out b5)
  clear b5 FE
  go_wp2_with fail
  refine (S1.out _ (HI.out.after V.out)).mono ?_
  rintro e w6 ⟨ga, rfl, _, hba, b6⟩
  replace V := Lib.hid (below_next' V.out b6)
  have BA := Lib.hid hba
  clear b6 hba
  go_wp2_with fail
  refine (S2.out _ (HI.out.after V.out)).mono ?_
  rintro e w7 ⟨gb, rfl, _, hbb, b7⟩
  have Q : Hid (Below w.heap.size w w7 ∧ bB ga sl w7 ∧ bB gb sl w7) := Lib.hid ⟨below_next' V.out b7, BA.out.after b7, hbb⟩
  clear b7 hbb BA V
  rw [HSL.out]
  go_wp2_with fail
  go_loopw [32] (fun i wr => ∃ j : Nat, i = .int .i64 j ∧ j ≤ n ∧ Hid (Below w.heap.size w wr ∧ bB ga sl wr ∧ bB gb sl wr)) (fun i wr => n - (intOf i).toNat)
  case atStart => exact ⟨0, rfl, by omega, Q⟩
  case round =>
    clear Q
    obtain ⟨j, rfl, hj, Q⟩ := hrel
    have hj0 : (0 : Int) ≤ j := by omega
    by_cases hlt : (j : Int) < n
    · have HJ := Lib.hid (HG.out j (by omega))
      go_wp2_with fail
      refine (T1.out _ _ (HI.out.after Q.out.1)).mono ?_
      rintro e w8 ⟨rfl, b8⟩
      replace Q : Hid (Below w.heap.size w w8 ∧ bB ga sl w8 ∧ bB gb sl w8) := Lib.hid ⟨below_next' Q.out.1 b8, Q.out.2.1.after b8, Q.out.2.2.after b8⟩
      clear b8
      go_wp2_with fail
      refine (T2.out _ _ (HI.out.after Q.out.1)).mono ?_
      rintro e w9 ⟨rfl, b9⟩
      replace Q : Hid (Below w.heap.size w w9 ∧ bB ga sl w9 ∧ bB gb sl w9) := Lib.hid ⟨below_next' Q.out.1 b9, Q.out.2.1.after b9, Q.out.2.2.after b9⟩
      clear b9
      generalize tgOf x j = tg at *
      generalize tgOk x j = tk at *
      generalize nextOf x j = nx at *
      generalize stAt x j = s at *
      go_wp2_with fail
      have PQ : Hid (Below w.heap.size w w9.drew ∧ bB ga sl w9.drew ∧ bB gb sl w9.drew) := Lib.hid ⟨below_next' Q.out.1 (Below.drew (Below.refl _ _)), Q.out.2.1.after (Below.drew (Below.refl _ _)), Q.out.2.2.after (Below.drew (Below.refl _ _))⟩
      have H : Hid (∀ wx, Below w.heap.size w wx ∧ bB ga sl wx ∧ bB gb sl wx → wx.cell? ⟨ga, j, none⟩ = some (.bool s) ∧ wx.cell? ⟨gb, j, none⟩ = some (.bool s)) := Lib.hid fun wx hx => ⟨hx.2.1.cell HJ.out, hx.2.2.cell HJ.out⟩
      refine wp_region_held_drew (S := (fun w' => w'.cell? ⟨ga, j, none⟩ = some (.bool s) ∧ w'.cell? ⟨gb, j, none⟩ = some (.bool s))) (by kernel_rfl) (H.out _ PQ.out) (fun hHeld => ?_)
      refine wpAnyH_take (i := 0) (oi := { dst := some 47, op := Op.move (Operand.tmp 7), type := 44, pos := "law.go:57", after := #[], guard := none }) (v := ?_) rfl (by kernel_rfl) (by kernel_rfl) (by kernel_rfl) (fun _ _ _ h => h) (Or.inl ⟨by rfl, ?_⟩) (by assumption) ?_
      rotate_left 1
      · intro w hSw; (try dsimp only at hSw); go_simp; try (with_reducible rfl)
      try simp only [Act.put, List.setIfInBounds_toArray, List.set_cons_zero, List.set_cons_succ]
      refine wpAnyH_take (i := 1) (oi := { dst := some 48, op := Op.move (Operand.tmp 9), type := 3, pos := "law.go:57", after := #[], guard := none }) (v := ?_) rfl (by kernel_rfl) (by kernel_rfl) (by kernel_rfl) (fun _ _ _ h => h) (Or.inl ⟨by rfl, ?_⟩) (by assumption) ?_
      rotate_left 1
      · intro w hSw; (try dsimp only at hSw); go_simp; try (with_reducible rfl)
      try simp only [Act.put, List.setIfInBounds_toArray, List.set_cons_zero, List.set_cons_succ]
      refine wpAnyH_take (i := 2) (oi := { dst := some 49, op := Op.indexAddr 44 (Operand.tmp 47) (Operand.tmp 48), type := 0, pos := "law.go:57", after := #[{ on := 0, ground := Ground.data }, { on := 1, ground := Ground.data }], guard := none }) (v := ?_) rfl (by kernel_rfl) (by kernel_rfl) (by kernel_rfl) (fun _ _ _ h => h) (Or.inl ⟨by rfl, ?_⟩) (by assumption) ?_
      rotate_left 1
      · intro w hSw; (try dsimp only at hSw); go_simp; try (with_reducible rfl)
      try simp only [Act.put, List.setIfInBounds_toArray, List.set_cons_zero, List.set_cons_succ]
      refine wpAnyH_take (i := 3) (oi := { dst := some 50, op := Op.load 4 (Operand.tmp 49), type := 4, pos := "law.go:57", after := #[{ on := 2, ground := Ground.data }], guard := none }) (v := ?_) rfl (by kernel_rfl) (by kernel_rfl) (by kernel_rfl) (fun _ _ _ h => h) (Or.inl ⟨by rfl, ?_⟩) (by assumption) ?_
      rotate_left 1
      · intro w hSw; (try dsimp only at hSw); go_simp; try (with_reducible rfl)
      try simp only [Act.put, List.setIfInBounds_toArray, List.set_cons_zero, List.set_cons_succ]
      refine wpAnyH_take (i := 4) (oi := { dst := some 51, op := Op.move (Operand.tmp 8), type := 44, pos := "law.go:57", after := #[], guard := none }) (v := ?_) rfl (by kernel_rfl) (by kernel_rfl) (by kernel_rfl) (fun _ _ _ h => h) (Or.inl ⟨by rfl, ?_⟩) (by assumption) ?_
      rotate_left 1
      · intro w hSw; (try dsimp only at hSw); go_simp; try (with_reducible rfl)
      try simp only [Act.put, List.setIfInBounds_toArray, List.set_cons_zero, List.set_cons_succ]
      refine wpAnyH_take (i := 5) (oi := { dst := some 52, op := Op.move (Operand.tmp 9), type := 3, pos := "law.go:57", after := #[], guard := none }) (v := ?_) rfl (by kernel_rfl) (by kernel_rfl) (by kernel_rfl) (fun _ _ _ h => h) (Or.inl ⟨by rfl, ?_⟩) (by assumption) ?_
      rotate_left 1
      · intro w hSw; (try dsimp only at hSw); go_simp; try (with_reducible rfl)
      try simp only [Act.put, List.setIfInBounds_toArray, List.set_cons_zero, List.set_cons_succ]
      refine wpAnyH_take (i := 6) (oi := { dst := some 53, op := Op.indexAddr 44 (Operand.tmp 51) (Operand.tmp 52), type := 0, pos := "law.go:57", after := #[{ on := 4, ground := Ground.data }, { on := 5, ground := Ground.data }], guard := none }) (v := ?_) rfl (by kernel_rfl) (by kernel_rfl) (by kernel_rfl) (fun _ _ _ h => h) (Or.inl ⟨by rfl, ?_⟩) (by assumption) ?_
      rotate_left 1
      · intro w hSw; (try dsimp only at hSw); go_simp; try (with_reducible rfl)
      try simp only [Act.put, List.setIfInBounds_toArray, List.set_cons_zero, List.set_cons_succ]
      refine wpAnyH_take (i := 7) (oi := { dst := some 54, op := Op.load 4 (Operand.tmp 53), type := 4, pos := "law.go:57", after := #[{ on := 6, ground := Ground.data }], guard := none }) (v := ?_) rfl (by kernel_rfl) (by kernel_rfl) (by kernel_rfl) (fun _ _ _ h => h) (Or.inl ⟨by rfl, ?_⟩) (by assumption) ?_
      rotate_left 1
      · intro w hSw; (try dsimp only at hSw); go_simp; try (with_reducible rfl)
      try simp only [Act.put, List.setIfInBounds_toArray, List.set_cons_zero, List.set_cons_succ]
      refine wpAnyH_take (i := 8) (oi := { dst := some 55, op := Op.binOp BinOp.neq 4 (Operand.tmp 50) (Operand.tmp 54) 4, type := 4, pos := "law.go:57", after := #[{ on := 3, ground := Ground.data }, { on := 7, ground := Ground.data }], guard := none }) (v := ?_) rfl (by kernel_rfl) (by kernel_rfl) (by kernel_rfl) (fun _ _ _ h => h) (Or.inl ⟨by rfl, ?_⟩) (by assumption) ?_
      rotate_left 1
      · intro w hSw; (try dsimp only at hSw); go_simp; try (with_reducible rfl)
      try simp only [Act.put, List.setIfInBounds_toArray, List.set_cons_zero, List.set_cons_succ]
      refine wpAnyH_take (i := 9) (oi := { dst := some 56, op := Op.move (Operand.tmp 55), type := 4, pos := "law.go:57", after := #[{ on := 8, ground := Ground.data }], guard := none }) (v := ?_) rfl (by kernel_rfl) (by kernel_rfl) (by kernel_rfl) (fun _ _ _ h => h) (Or.inl ⟨by rfl, ?_⟩) (by assumption) ?_
      rotate_left 1
      · intro w hSw; (try dsimp only at hSw); go_simp; try (with_reducible rfl)
      try simp only [Act.put, List.setIfInBounds_toArray, List.set_cons_zero, List.set_cons_succ]
      refine wpAnyH_take (i := 10) (oi := { dst := some 57, op := Op.move (Operand.tmp 6), type := 31, pos := "law.go:57", after := #[{ on := 9, ground := Ground.guard }], guard := some (9, false) }) (v := ?_) rfl (by kernel_rfl) (by kernel_rfl) (by kernel_rfl) (fun _ _ _ h => h) (Or.inl ⟨by rfl, ?_⟩) (by assumption) ?_
      rotate_left 1
      · intro w hSw; (try dsimp only at hSw); go_simp; try (with_reducible rfl)
      try simp only [Act.put, List.setIfInBounds_toArray, List.set_cons_zero, List.set_cons_succ]
      refine wpAnyH_take (i := 11) (oi := { dst := some 58, op := Op.move (Operand.tmp 9), type := 3, pos := "law.go:57", after := #[{ on := 9, ground := Ground.guard }], guard := some (9, false) }) (v := ?_) rfl (by kernel_rfl) (by kernel_rfl) (by kernel_rfl) (fun _ _ _ h => h) (Or.inl ⟨by rfl, ?_⟩) (by assumption) ?_
      rotate_left 1
      · intro w hSw; (try dsimp only at hSw); go_simp; try (with_reducible rfl)
      try simp only [Act.put, List.setIfInBounds_toArray, List.set_cons_zero, List.set_cons_succ]
      refine wpAnyH_take (i := 13) (oi := { dst := some 60, op := Op.move (Operand.tmp 6), type := 31, pos := "law.go:57", after := #[{ on := 9, ground := Ground.guard }], guard := some (9, false) }) (v := ?_) rfl (by kernel_rfl) (by kernel_rfl) (by kernel_rfl) (fun _ _ _ h => h) (Or.inl ⟨by rfl, ?_⟩) (by assumption) ?_
      rotate_left 1
      · intro w hSw; (try dsimp only at hSw); go_simp; try (with_reducible rfl)
      try simp only [Act.put, List.setIfInBounds_toArray, List.set_cons_zero, List.set_cons_succ]
      refine wpAnyH_take (i := 14) (oi := { dst := some 61, op := Op.move (Operand.tmp 9), type := 3, pos := "law.go:57", after := #[{ on := 9, ground := Ground.guard }], guard := some (9, false) }) (v := ?_) rfl (by kernel_rfl) (by kernel_rfl) (by kernel_rfl) (fun _ _ _ h => h) (Or.inl ⟨by rfl, ?_⟩) (by assumption) ?_
      rotate_left 1
      · intro w hSw; (try dsimp only at hSw); go_simp; try (with_reducible rfl)
      try simp only [Act.put, List.setIfInBounds_toArray, List.set_cons_zero, List.set_cons_succ]
      refine wpAnyH_ready (rs := [12]) (by kernel_rfl) (by simp) ?_
      refine AllReadyH.cons (o := { dst := some 59, op := Op.call { callee := Callee.value (Operand.func 27), args := #[Operand.tmp 57, Operand.tmp 58], argTypes := #[31, 3] }, type := 3, pos := "law.go:57", after := #[{ on := 10, ground := Ground.data }, { on := 11, ground := Ground.data }, { on := 9, ground := Ground.chain }, { on := 9, ground := Ground.guard }], guard := some (9, false) }) rfl (fun K hK => ?_) AllReadyH.nil
      go_simp
      refine (N1.out _ _ (HI.out.after PQ.out.1)).mono ?_; rintro e w10 ⟨rfl, hb⟩
      replace PQ : Hid (Below w.heap.size w w10 ∧ bB ga sl w10 ∧ bB gb sl w10) := Lib.hid ⟨below_next' PQ.out.1 hb, PQ.out.2.1.after hb, PQ.out.2.2.after hb⟩
      clear hb
      go_wp2_with fail
      refine hK.out _ _ (H.out _ PQ.out) (fun hHeld => ?_)
      clear hK K
      try simp only [Act.put, List.setIfInBounds_toArray, List.set_cons_zero, List.set_cons_succ]
      refine wpAnyH_ready (rs := [15]) (by kernel_rfl) (by simp) ?_
      refine AllReadyH.cons (o := { dst := some 62, op := Op.call { callee := Callee.value (Operand.func 28), args := #[Operand.tmp 60, Operand.tmp 61], argTypes := #[31, 3] }, type := 3, pos := "law.go:57", after := #[{ on := 13, ground := Ground.data }, { on := 14, ground := Ground.data }, { on := 12, ground := Ground.chain }, { on := 9, ground := Ground.guard }], guard := some (9, false) }) rfl (fun K hK => ?_) AllReadyH.nil
      go_simp
      refine (N2.out _ _ (HI.out.after PQ.out.1)).mono ?_; rintro e w11 ⟨rfl, hb⟩
      replace PQ : Hid (Below w.heap.size w w11 ∧ bB ga sl w11 ∧ bB gb sl w11) := Lib.hid ⟨below_next' PQ.out.1 hb, PQ.out.2.1.after hb, PQ.out.2.2.after hb⟩
      clear hb
      go_wp2_with fail
      refine hK.out _ _ (H.out _ PQ.out) (fun hHeld => ?_)
      clear hK K
      try simp only [Act.put, List.setIfInBounds_toArray, List.set_cons_zero, List.set_cons_succ]
      refine wpAnyH_take (i := 16) (oi := { dst := some 63, op := Op.binOp BinOp.neq 3 (Operand.tmp 59) (Operand.tmp 62) 3, type := 4, pos := "law.go:57", after := #[{ on := 12, ground := Ground.data }, { on := 15, ground := Ground.data }, { on := 9, ground := Ground.guard }], guard := some (9, false) }) (v := ?_) rfl (by kernel_rfl) (by kernel_rfl) (by kernel_rfl) (fun _ _ _ h => h) (Or.inl ⟨by rfl, ?_⟩) (by assumption) ?_
      rotate_left 1
      · intro w hSw; (try dsimp only at hSw); go_simp; try (with_reducible rfl)
      try simp only [Act.put, List.setIfInBounds_toArray, List.set_cons_zero, List.set_cons_succ]
      refine wpAnyH_take (i := 17) (oi := { dst := some 64, op := Op.pick (Operand.tmp 56) (Operand.const (Value.bool true)) (Operand.tmp 63), type := 4, pos := "law.go:57", after := #[{ on := 9, ground := Ground.data }, { on := 16, ground := Ground.data }], guard := none }) (v := ?_) rfl (by kernel_rfl) (by kernel_rfl) (by kernel_rfl) (fun _ _ _ h => h) (Or.inl ⟨by rfl, ?_⟩) (by assumption) ?_
      rotate_left 1
      · intro w hSw; (try dsimp only at hSw); go_simp; try (with_reducible rfl)
      try simp only [Act.put, List.setIfInBounds_toArray, List.set_cons_zero, List.set_cons_succ]
      refine wpAnyH_take (i := 18) (oi := { dst := some 65, op := Op.move (Operand.tmp 64), type := 4, pos := "law.go:57", after := #[{ on := 17, ground := Ground.data }, { on := 15, ground := Ground.chain }], guard := none }) (v := ?_) rfl (by kernel_rfl) (by kernel_rfl) (by kernel_rfl) (fun _ _ _ h => h) (Or.inl ⟨by rfl, ?_⟩) (by assumption) ?_
      rotate_left 1
      · intro w hSw; (try dsimp only at hSw); go_simp; try (with_reducible rfl)
      try simp only [Act.put, List.setIfInBounds_toArray, List.set_cons_zero, List.set_cons_succ]
      refine wpAnyH_take (i := 19) (oi := { dst := some 66, op := Op.move (Operand.tmp 10), type := 3, pos := "law.go:57", after := #[{ on := 18, ground := Ground.guard }], guard := some (18, false) }) (v := ?_) rfl (by kernel_rfl) (by kernel_rfl) (by kernel_rfl) (fun _ _ _ h => h) (Or.inl ⟨by rfl, ?_⟩) (by assumption) ?_
      rotate_left 1
      · intro w hSw; (try dsimp only at hSw); go_simp; try (with_reducible rfl)
      try simp only [Act.put, List.setIfInBounds_toArray, List.set_cons_zero, List.set_cons_succ]
      refine wpAnyH_take (i := 20) (oi := { dst := some 67, op := Op.move (Operand.tmp 12), type := 3, pos := "law.go:57", after := #[{ on := 18, ground := Ground.guard }], guard := some (18, false) }) (v := ?_) rfl (by kernel_rfl) (by kernel_rfl) (by kernel_rfl) (fun _ _ _ h => h) (Or.inl ⟨by rfl, ?_⟩) (by assumption) ?_
      rotate_left 1
      · intro w hSw; (try dsimp only at hSw); go_simp; try (with_reducible rfl)
      try simp only [Act.put, List.setIfInBounds_toArray, List.set_cons_zero, List.set_cons_succ]
      refine wpAnyH_take (i := 21) (oi := { dst := some 68, op := Op.binOp BinOp.neq 3 (Operand.tmp 66) (Operand.tmp 67) 3, type := 4, pos := "law.go:57", after := #[{ on := 19, ground := Ground.data }, { on := 20, ground := Ground.data }, { on := 18, ground := Ground.guard }], guard := some (18, false) }) (v := ?_) rfl (by kernel_rfl) (by kernel_rfl) (by kernel_rfl) (fun _ _ _ h => h) (Or.inl ⟨by rfl, ?_⟩) (by assumption) ?_
      rotate_left 1
      · intro w hSw; (try dsimp only at hSw); go_simp; try (with_reducible rfl)
      try simp only [Act.put, List.setIfInBounds_toArray, List.set_cons_zero, List.set_cons_succ]
      refine wpAnyH_take (i := 22) (oi := { dst := some 69, op := Op.pick (Operand.tmp 65) (Operand.const (Value.bool true)) (Operand.tmp 68), type := 4, pos := "law.go:57", after := #[{ on := 18, ground := Ground.data }, { on := 21, ground := Ground.data }], guard := none }) (v := ?_) rfl (by kernel_rfl) (by kernel_rfl) (by kernel_rfl) (fun _ _ _ h => h) (Or.inl ⟨by rfl, ?_⟩) (by assumption) ?_
      rotate_left 1
      · intro w hSw; (try dsimp only at hSw); go_simp; try (with_reducible rfl)
      try simp only [Act.put, List.setIfInBounds_toArray, List.set_cons_zero, List.set_cons_succ]
      refine wpAnyH_take (i := 23) (oi := { dst := some 70, op := Op.move (Operand.tmp 69), type := 4, pos := "law.go:57", after := #[{ on := 22, ground := Ground.data }, { on := 18, ground := Ground.chain }], guard := none }) (v := ?_) rfl (by kernel_rfl) (by kernel_rfl) (by kernel_rfl) (fun _ _ _ h => h) (Or.inl ⟨by rfl, ?_⟩) (by assumption) ?_
      rotate_left 1
      · intro w hSw; (try dsimp only at hSw); go_simp; try (with_reducible rfl)
      try simp only [Act.put, List.setIfInBounds_toArray, List.set_cons_zero, List.set_cons_succ]
      refine wpAnyH_take (i := 24) (oi := { dst := some 71, op := Op.move (Operand.tmp 11), type := 4, pos := "law.go:57", after := #[{ on := 23, ground := Ground.guard }], guard := some (23, false) }) (v := ?_) rfl (by kernel_rfl) (by kernel_rfl) (by kernel_rfl) (fun _ _ _ h => h) (Or.inl ⟨by rfl, ?_⟩) (by assumption) ?_
      rotate_left 1
      · intro w hSw; (try dsimp only at hSw); go_simp; try (with_reducible rfl)
      try simp only [Act.put, List.setIfInBounds_toArray, List.set_cons_zero, List.set_cons_succ]
      refine wpAnyH_take (i := 25) (oi := { dst := some 72, op := Op.move (Operand.tmp 13), type := 4, pos := "law.go:57", after := #[{ on := 23, ground := Ground.guard }], guard := some (23, false) }) (v := ?_) rfl (by kernel_rfl) (by kernel_rfl) (by kernel_rfl) (fun _ _ _ h => h) (Or.inl ⟨by rfl, ?_⟩) (by assumption) ?_
      rotate_left 1
      · intro w hSw; (try dsimp only at hSw); go_simp; try (with_reducible rfl)
      try simp only [Act.put, List.setIfInBounds_toArray, List.set_cons_zero, List.set_cons_succ]
      refine wpAnyH_take (i := 26) (oi := { dst := some 73, op := Op.binOp BinOp.neq 4 (Operand.tmp 71) (Operand.tmp 72) 4, type := 4, pos := "law.go:57", after := #[{ on := 24, ground := Ground.data }, { on := 25, ground := Ground.data }, { on := 23, ground := Ground.guard }], guard := some (23, false) }) (v := ?_) rfl (by kernel_rfl) (by kernel_rfl) (by kernel_rfl) (fun _ _ _ h => h) (Or.inl ⟨by rfl, ?_⟩) (by assumption) ?_
      rotate_left 1
      · intro w hSw; (try dsimp only at hSw); go_simp; try (with_reducible rfl)
      try simp only [Act.put, List.setIfInBounds_toArray, List.set_cons_zero, List.set_cons_succ]
      refine wpAnyH_take (i := 27) (oi := { dst := some 74, op := Op.pick (Operand.tmp 70) (Operand.const (Value.bool true)) (Operand.tmp 73), type := 4, pos := "law.go:57", after := #[{ on := 23, ground := Ground.data }, { on := 26, ground := Ground.data }], guard := none }) (v := ?_) rfl (by kernel_rfl) (by kernel_rfl) (by kernel_rfl) (fun _ _ _ h => h) (Or.inl ⟨by rfl, ?_⟩) (by assumption) ?_
      rotate_left 1
      · intro w hSw; (try dsimp only at hSw); go_simp; try (with_reducible rfl)
      try simp only [Act.put, List.setIfInBounds_toArray, List.set_cons_zero, List.set_cons_succ]
      refine wpAnyH_done (by kernel_rfl) ?_ _
      clear H Q
      go_wp2_with fail
      go_round
      case rel => exact ⟨j + 1, by go_num, by omega, PQ⟩
      case measure => simp [intOf]; omega
    · clear hj
      go_wp2_with fail
      refine (T1.out _ _ (HI.out.after Q.out.1)).mono ?_
      rintro e w8 ⟨rfl, b8⟩
      have V := Lib.hid (below_next' Q.out.1 b8)
      clear b8 Q
      go_wp2_with fail
      refine (T2.out _ _ (HI.out.after V.out)).mono ?_
      rintro e w9 ⟨rfl, b9⟩
      replace V := Lib.hid (below_next' V.out b9)
      clear b9
      go_wp2_with fail
      refine (N1.out _ _ (HI.out.after V.out)).mono ?_
      rintro e w10 ⟨rfl, b10⟩
      replace V := Lib.hid (below_next' V.out b10)
      clear b10
      go_wp2_with fail
      refine (N2.out _ _ (HI.out.after V.out)).mono ?_
      rintro e w11 ⟨rfl, b11⟩
      replace V := Lib.hid (below_next' V.out b11)
      clear b11
      go_wp2_with fail
      go_ret
      exact ⟨rfl, V.out⟩

end Go.Proofs.Ytplndcjmbgkcjaa
