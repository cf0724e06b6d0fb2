/-
  The document's own answers of layer 7: arithmetic, loads and stores, and what needs no more than its Op, of whatever instruction.
  Conditions: the numbers fit their kinds.
-/
import Derived.Test.YtplndcjmbgkcjaaRef07b
import Derived.Test.YtplndcjmbgkcjaaRef07c
import Derived.Test.YtplndcjmbgkcjaaRef07d
namespace Go.Proofs.Ytplndcjmbgkcjaa
open Go.RowKit
set_option linter.unusedVariables false

theorem r7_arith (x : Ins) (hx : x.ok) : ∃ v, (arOk x = true → v = arW x) ∧ ∀ w, Calls Try.prog 60 #[iV x] w (Gives (.tuple #[whV v, .bool (arOk x)]) w) := by
  cases hd : (x.dst == 10)
  · cases hn : (x.op / 16 * 16 == 128)
    · refine ⟨arW x, fun _ => rfl, fun w => ?_⟩
      have h := r7_arith_other x hx hd hn (arW x) rfl w (inB ariths (arW x).op) (onlyB x (arW x).reg true (!(arW x).reg))
        (Lib.hid fun w g c t hb => r7_in ariths g c t _ w (by decide) hb) (Lib.hid fun w => r7_only x _ _ _ w)
      have e : arOk x = (inB ariths (arW x).op && arOff x && onlyB x (arW x).reg true (!(arW x).reg)) := by
        unfold arOk
        rw [hd, hn]
        rfl
      rw [e]
      exact h
    · refine ⟨arW x, fun _ => rfl, fun w => ?_⟩
      have h := r7_arith_neg x hx hd hn (arW x) rfl w (onlyB x false false false) (Lib.hid fun w => r7_only x _ _ _ w)
      have e : arOk x = (!(arW x).reg && onlyB x false false false) := by
        unfold arOk
        rw [hd, hn]
        rfl
      rw [e]
      exact h
  · refine ⟨Wh.zero, fun h => ?_, fun w => ?_⟩
    · unfold arOk at h
      rw [hd] at h
      cases h
    · have e : arOk x = false := by
        unfold arOk
        rw [hd]
        rfl
      rw [e]
      exact r7_arith_dst x hx hd w

theorem r7_sizes_new (l : List Int) (n : Int) (hl : l.length ≤ 4) (w : World) (g : Nat) (hg : g = w.heap.size) :
    Calls Try.prog 71 #[.slice (some ⟨g, 0, none⟩) l.length l.length, .int .u8 n] (w.alloc (.cells (byteCells l) 5)) (Gives (.int .i64 (szFrom l [4, 2, 1, 8] n)) w) :=
  (r7_sizes l g l.length 5 n (w.alloc (.cells (byteCells l) 5)) hl (Blk.new w _ _ hg)).mono (by
    rintro e w' ⟨rfl, h⟩
    exact ⟨rfl, below_next' (below_alloc (Below.refl _ _) _) h⟩)

theorem r7_memory (x : Ins) (w : World) : Calls Try.prog 62 #[iV x] w (Gives (.tuple #[whV (meW x), .bool (meOk x)]) w) := by
  have hL := szFrom_rng [97, 105, 113, 121] x.op
  have hG := szFrom_rng [129, 137, 145] x.op
  have hS := szFrom_rng [98, 106, 114, 122] x.op
  have hP := szFrom_rng [99, 107, 115, 123] x.op
  have K1 := r7_sizes_new [97, 105, 113, 121] x.op (by decide)
  have K2 := r7_sizes_new [129, 137, 145] x.op (by decide)
  have K3 := r7_sizes_new [98, 106, 114, 122] x.op (by decide)
  have K4 := r7_sizes_new [99, 107, 115, 123] x.op (by decide)
  have C := fun s o i => Lib.hid fun w => r7_only x s o i w
  unfold meW meOk
  change _ at hL
  have eL : szFrom [97, 105, 113, 121] [4, 2, 1, 8] x.op = szL x.op := rfl
  have eG : szFrom [129, 137, 145] [4, 2, 1, 8] x.op = szG x.op := rfl
  have eS : szFrom [98, 106, 114, 122] [4, 2, 1, 8] x.op = szS x.op := rfl
  have eP : szFrom [99, 107, 115, 123] [4, 2, 1, 8] x.op = szP x.op := rfl
  rw [eL] at hL K1
  rw [eG] at hG K2
  rw [eS] at hS K3
  rw [eP] at hP K4
  generalize szL x.op = L at *
  generalize szG x.op = G at *
  generalize szS x.op = S at *
  generalize szP x.op = P at *
  by_cases h1 : 0 < L + G
  · rw [if_pos h1, if_pos h1]
    exact r7_mem_load x L G S P h1 hL hG w _ (Lib.hid K1) (Lib.hid K2) (Lib.hid K3) (Lib.hid K4) (C _ _ _)
  · have zL : L = 0 := by omega
    have zG : G = 0 := by omega
    rw [if_neg h1, if_neg h1]
    subst zL
    subst zG
    by_cases h2 : 0 < S
    · rw [if_pos h2, if_pos h2]
      exact r7_mem_store x S P h2 w _ (Lib.hid K1) (Lib.hid K2) (Lib.hid K3) (Lib.hid K4) (C _ _ _)
    · have zS : S = 0 := by omega
      rw [if_neg h2, if_neg h2]
      subst zS
      by_cases h3 : 0 < P
      · rw [if_pos h3, if_pos h3]
        exact r7_mem_put x P h3 w _ (Lib.hid K1) (Lib.hid K2) (Lib.hid K3) (Lib.hid K4) (C _ _ _)
      · have zP : P = 0 := by omega
        rw [if_neg h3, if_neg h3]
        subst zP
        cases h4 : (x.op == 195)
        · cases h5 : (x.op == 219)
          · exact r7_mem_none x h4 h5 w true (Lib.hid K1) (Lib.hid K2) (Lib.hid K3) (Lib.hid K4)
          · exact r7_mem_atom8 x h4 h5 w true (Lib.hid K1) (Lib.hid K2) (Lib.hid K3) (Lib.hid K4)
        · have h5 : (x.op == 219) = false := by
            have := beq_iff_eq.mp h4
            rw [this]
            rfl
          rw [h5]
          exact r7_mem_atom4 x h4 h5 w true (Lib.hid K1) (Lib.hid K2) (Lib.hid K3) (Lib.hid K4)

theorem bne_of {a b : Int} {r : Bool} (h : (a == b) = r) : (a != b) = !r := by unfold bne; rw [h]

theorem inB_others {op : Int} (h : inB others op = true) : op = 212 ∨ op = 220 ∨ op = 215 ∨ op = 24 ∨ op = 5 ∨ op = 6 ∨ op = 133 ∨ op = 149 := by
  simp [inB, others] at h
  omega

theorem r7_swaps (x : Ins) (hx : x.ok) (h : x.op = 212 ∨ x.op = 220 ∨ x.op = 215) (w : World) : Calls Try.prog 59 #[iV x] w (Gives (.tuple #[whV (otW x), .bool (otOk x)]) w) := by
  obtain ⟨_, _, _, _, l1, l2⟩ := hx
  have hh : (x.op == 212 || x.op == 220 || x.op == 215) = true := by rcases h with e | e | e <;> rw [e] <;> rfl
  have C := Lib.hid fun w => r7_only x false false true w
  have ew : otW x = (⟨2, 0, x.op != 212, false, false, x.imm.tdiv 8⟩ : Wh) := by
    unfold otW
    rw [hh, if_pos rfl]
    rfl
  have eo : otOk x = (!(x.dst == 10) && onlyB x false false true && (x.imm == 16 || x.imm == 32 || x.imm == 64)) := by
    unfold otOk
    rw [hh, if_pos rfl]
  rw [ew, eo]
  cases hd : (x.dst == 10)
  · have hd' := bne_of hd
    cases hb : onlyB x false false true
    · rw [hb] at C
      exact r7_swaps_only x h _ rfl l1 l2 hd' w C
    · rw [hb] at C
      cases h1 : (x.imm == 16)
      · cases h2 : (x.imm == 32)
        · cases h3 : (x.imm == 64)
          · exact r7_swaps_no x h _ rfl l1 l2 hd' h1 h2 h3 w C
          · exact r7_swaps_64 x h _ rfl l1 l2 hd' h1 h2 h3 w C
        · exact r7_swaps_32 x h _ rfl l1 l2 hd' h1 h2 w C
      · exact r7_swaps_16 x h _ rfl l1 l2 hd' h1 w C
  · exact r7_swaps_dst x h _ rfl l1 l2 (bne_of hd) w

theorem r7_other (x : Ins) (hx : x.ok) (h : inB others x.op = true) (w : World) : Calls Try.prog 59 #[iV x] w (Gives (.tuple #[whV (otW x), .bool (otOk x)]) w) := by
  rcases inB_others h with e | e | e | e | e | e | e | e
  · exact r7_swaps x hx (Or.inl e) w
  · exact r7_swaps x hx (Or.inr (Or.inl e)) w
  · exact r7_swaps x hx (Or.inr (Or.inr e)) w
  all_goals
    obtain ⟨op, dst, src, off, imm⟩ := x
    obtain rfl : op = _ := e
    clear hx h
  · cases hs : (src == 0)
    · have ew : otW ⟨24, dst, src, off, imm⟩ = (⟨4, 0, true, false, false, 0⟩ : Wh) := by simp [otW, hs]
      rw [ew]
      cases hd : (dst == 10)
      · cases h1 : (off == 0)
        · rw [show otOk ⟨24, dst, src, off, imm⟩ = false by simp [otOk, hs, hd, h1]]
          exact r7_table_off dst src off imm hs (bne_of hd) h1 w true
        · cases h2 : (src == 1)
          · rw [show otOk ⟨24, dst, src, off, imm⟩ = false by simp [otOk, hs, hd, h1, h2]]
            exact r7_table_src dst src off imm hs (bne_of hd) h1 h2 w true
          · by_cases h3 : 0 ≤ imm
            · rw [show otOk ⟨24, dst, src, off, imm⟩ = true by simp [otOk, hs, hd, h1, h2, h3]]
              exact r7_table_yes dst src off imm hs (bne_of hd) h1 h2 h3 w true
            · rw [show otOk ⟨24, dst, src, off, imm⟩ = false by simp [otOk, hs, hd, h1, h2, h3]]
              exact r7_table_imm dst src off imm hs (bne_of hd) h1 h2 (decide_eq_false h3) w true
      · rw [show otOk ⟨24, dst, src, off, imm⟩ = false by simp [otOk, hs, hd]]
        exact r7_table_dst dst src off imm hs (bne_of hd) w true
    · have ew : otW ⟨24, dst, src, off, imm⟩ = (⟨3, 0, true, false, false, 0⟩ : Wh) := by simp [otW, hs]
      rw [ew]
      cases hd : (dst == 10)
      · cases h1 : (off == 0)
        · rw [show otOk ⟨24, dst, src, off, imm⟩ = false by simp [otOk, hs, hd, h1]]
          exact r7_number_off dst src off imm hs (bne_of hd) h1 w true
        · rw [show otOk ⟨24, dst, src, off, imm⟩ = true by simp [otOk, hs, hd, h1]]
          exact r7_number_yes dst src off imm hs (bne_of hd) h1 w true
      · rw [show otOk ⟨24, dst, src, off, imm⟩ = false by simp [otOk, hs, hd]]
        exact r7_number_dst dst src off imm hs (bne_of hd) w true
  · cases hd : (dst == 0)
    · rw [show otOk ⟨5, dst, src, off, imm⟩ = false by simp [otOk, hd]]
      exact r7_jump5_no dst src off imm hd w true
    · rw [show otOk ⟨5, dst, src, off, imm⟩ = onlyB ⟨5, dst, src, off, imm⟩ false true false by simp [otOk, hd]]
      exact r7_jump5_yes dst src off imm hd w _ (Lib.hid fun w => r7_only _ _ _ _ w)
  · cases hd : (dst == 0)
    · rw [show otOk ⟨6, dst, src, off, imm⟩ = false by simp [otOk, hd]]
      exact r7_jump6_no dst src off imm hd w true
    · rw [show otOk ⟨6, dst, src, off, imm⟩ = onlyB ⟨6, dst, src, off, imm⟩ false false true by simp [otOk, hd]]
      exact r7_jump6_yes dst src off imm hd w _ (Lib.hid fun w => r7_only _ _ _ _ w)
  · cases hd : (dst == 0)
    · rw [show otOk ⟨133, dst, src, off, imm⟩ = false by simp [otOk, hd]]
      exact r7_call_no dst src off imm hd w true
    · rw [show otOk ⟨133, dst, src, off, imm⟩ = onlyB ⟨133, dst, src, off, imm⟩ false false true by simp [otOk, hd]]
      exact r7_call_yes dst src off imm hd w _ (Lib.hid fun w => r7_only _ _ _ _ w)
  · cases hd : (dst == 0)
    · rw [show otOk ⟨149, dst, src, off, imm⟩ = false by simp [otOk, hd]]
      exact r7_exit_no dst src off imm hd w true
    · rw [show otOk ⟨149, dst, src, off, imm⟩ = onlyB ⟨149, dst, src, off, imm⟩ false false false by simp [otOk, hd]]
      exact r7_exit_yes dst src off imm hd w _ (Lib.hid fun w => r7_only _ _ _ _ w)

end Go.Proofs.Ytplndcjmbgkcjaa
