/-
  Layer 7: the document's examples.
  Conditions: none.
-/
import Derived.Test.YtplndcjmbgkcjaaCode11
import Derived.Test.YtplndcjmbgkcjaaCodeSame
namespace Go.Proofs.Ytplndcjmbgkcjaa
open Go.RowKit
set_option linter.unusedVariables false
set_option linter.unusedSimpArgs false

def shB : List Int := [183, 0, 0, 0, 1, 0, 0, 0, 149, 0, 0, 0, 0, 0, 0, 0]
def shM : Ins := ⟨183, 0, 0, 0, 1⟩
def shX : Ins := ⟨149, 0, 0, 0, 0⟩
theorem sh_two : decR shB = ([shM, shX], 0, 0) := by
  have e : decL shB = [shM, shX] := (sameB_iff _ _).mp (by decide +kernel)
  have h1 : fb [shM, shX] (bad1 [shM, shX]) 0 = none := by
    rw [fb_in (by decide), show bad1 [shM, shX] 0 = false by decide +kernel, if_neg Bool.false_ne_true, show nxt [shM, shX] 0 = 1 by decide +kernel,
      fb_in (by decide), show bad1 [shM, shX] 1 = false by decide +kernel, if_neg Bool.false_ne_true, show nxt [shM, shX] 1 = 2 by decide +kernel, fb_out (by decide)]
  have h2 : fb [shM, shX] (bad2 [shM, shX]) 0 = none := by
    rw [fb_in (by decide), show bad2 [shM, shX] 0 = false by decide +kernel, if_neg Bool.false_ne_true, show nxt [shM, shX] 0 = 1 by decide +kernel,
      fb_in (by decide), show bad2 [shM, shX] 1 = false by decide +kernel, if_neg Bool.false_ne_true, show nxt [shM, shX] 1 = 2 by decide +kernel, fb_out (by decide)]
  have h3 : lst [shM, shX] 0 0 = 1 := by
    rw [lst_in (by decide), show nxt [shM, shX] 0 = 1 by decide +kernel, lst_in (by decide), show nxt [shM, shX] 1 = 2 by decide +kernel, lst_out (by decide)]
  have hc : chk [shM, shX] = (0, 0) := by
    unfold chk
    rw [if_neg (by decide), h1]
    simp only
    rw [h2]
    simp only
    rw [h3, if_pos (by decide +kernel)]
  unfold decR
  rw [e, hc, if_neg (by decide), if_pos rfl]
theorem sh_one : decR (shB.take 8) = ([], 0, 73) := by
  have e : decL (shB.take 8) = [shM] := (sameB_iff _ _).mp (by decide +kernel)
  have h1 : fb [shM] (bad1 [shM]) 0 = none := by
    rw [fb_in (by decide), show bad1 [shM] 0 = false by decide +kernel, if_neg Bool.false_ne_true, show nxt [shM] 0 = 1 by decide +kernel, fb_out (by decide)]
  have h2 : fb [shM] (bad2 [shM]) 0 = none := by
    rw [fb_in (by decide), show bad2 [shM] 0 = false by decide +kernel, if_neg Bool.false_ne_true, show nxt [shM] 0 = 1 by decide +kernel, fb_out (by decide)]
  have h3 : lst [shM] 0 0 = 0 := by
    rw [lst_in (by decide), show nxt [shM] 0 = 1 by decide +kernel, lst_out (by decide)]
  have hc : chk [shM] = (0, 73) := by
    unfold chk
    rw [if_neg (by decide), h1]
    simp only
    rw [h2]
    simp only
    rw [h3, if_neg (by decide +kernel)]
    rfl
  unfold decR
  rw [e, hc, if_neg (by decide), if_neg (by decide)]
theorem shB_ok : OkB shB := fun k hk => by
  have : ∀ k, k < 16 → 0 ≤ bAt shB k ∧ bAt shB k ≤ 255 := by decide +kernel
  exact this k hk
theorem shB_ok8 : OkB (shB.take 8) := fun k hk => by
  have : ∀ k, k < 8 → 0 ≤ bAt (shB.take 8) k ∧ bAt (shB.take 8) k ≤ 255 := by decide +kernel
  exact this k hk
abbrev shC : Array Value := #[.int .u8 183, .int .u8 0, .int .u8 0, .int .u8 0, .int .u8 1, .int .u8 0, .int .u8 0, .int .u8 0, .int .u8 149, .int .u8 0, .int .u8 0, .int .u8 0, .int .u8 0, .int .u8 0, .int .u8 0, .int .u8 0]
theorem sh_bytes {w : World} {g : Nat} (h : Blk g shC 5 w) : BytS w (some ⟨g, 0, none⟩) shB ∧ BytS w (some ⟨g, 0, none⟩) (shB.take 8) := by
  have hb := Blk.lt h
  have e : shC = (byC shB).toArray := by rfl
  have hc : ∀ k, k < 16 → w.cell? ⟨g, 0 + k, none⟩ = some (.int .u8 (bAt shB k)) := fun k hk => by
    rw [Nat.zero_add, Blk.cell h k, e]
    have := byC_at shB (k := k) hk
    simpa using this
  refine ⟨fun _ => ⟨g, 0, rfl, hb, fun k hk => hc k hk⟩, fun _ => ⟨g, 0, rfl, hb, fun k hk => ?_⟩⟩
  have hk8 : k < 8 := hk
  have e8 : bAt (shB.take 8) k = bAt shB k := by
    unfold bAt
    rw [List.getD_eq_getElem?_getD, List.getElem?_take, if_pos hk8, ← List.getD_eq_getElem?_getD]
  rw [e8]
  exact hc k (by omega)

set_option maxRecDepth 100000 in
set_option maxHeartbeats 2000000 in
theorem l7_shown (w : World) : Calls Try.prog 14 #[] w (Gives (.bool true) w) := by
  have B0 : Hid (Blks w [(w.heap.size, shC, 5)] (w.alloc (.cells shC 5))) := Lib.hid ((Blks.start w).new shC 5)
  have D2 : Hid (∀ u, BytS u (some ⟨w.heap.size, 0, none⟩) shB → Calls Try.prog 20 #[.slice (some ⟨w.heap.size, 0, none⟩) 16 16] u (DecW ([shM, shX], 0, 0) u)) := Lib.hid fun u h => by
    have := c7_Decode shB _ 16 u (by decide) h shB_ok (by decide) (by unfold maxLen; omega)
    rw [sh_two] at this
    exact this
  have D1 : Hid (∀ u, BytS u (some ⟨w.heap.size, 0, none⟩) (shB.take 8) → Calls Try.prog 20 #[.slice (some ⟨w.heap.size, 0, none⟩) 8 16] u (DecW ([], 0, 73) u)) := Lib.hid fun u h => by
    have := c7_Decode (shB.take 8) _ 16 u (by decide) h shB_ok8 (by decide) (by unfold maxLen; omega)
    rw [sh_one] at this
    exact this
  have SM : Hid (∀ A B c d w, InsS w A [shM, shX] → InsS w B [shM, shX] → Calls Try.prog 22 #[.slice A 2 c, .slice B 2 d] w (Gives (.bool true) w)) := Lib.hid fun A B c d w h h' => by
    have := r7_Same [shM, shX] [shM, shX] A B c d w (by decide) (by decide) h h'
    rw [(sameB_iff _ _).mpr rfl] at this
    exact this
  go_enter Try.func14, Try.ntmps14
  go_wp2_with fail
  refine (D2.out _ (sh_bytes (B0.out.get (by simp))).1).mono ?_
  rintro e w5 ⟨A, c, rfl, h5, _, _, b5⟩
  have B1 := Lib.hid (B0.out.after b5)
  have I1 := Lib.hid h5
  clear b5 h5 B0
  go_wp2_with fail
  refine (D1.out _ (sh_bytes (B1.out.get (by simp))).2).mono ?_
  rintro e w6 ⟨A2, c2, rfl, _, _, _, b6⟩
  have B2 := Lib.hid (B1.out.after b6)
  replace I1 := Lib.hid (I1.out.after b6)
  clear b6 B1
  go_wp2_with fail
  have W6 := Lib.hid (below_alloc B2.out.1 (.cells (inC [shM, shX]).toArray 24))
  refine (SM.out _ _ _ _ _ (I1.out.after (below_alloc (Below.refl _ _) (.cells (inC [shM, shX]).toArray 24))) (own_insS (base := 0) (e := 24) (l := [shM, shX]) (n := 2) rfl (World.ownsRow_lit w6 (inC [shM, shX]).toArray 2 (Nat.zero_le _) (by unfold maxLen; omega) rfl))).mono ?_
  rintro e w7 ⟨rfl, b7⟩
  have V := Lib.hid (below_next' W6.out b7)
  clear b7
  go_wp2_with fail
  go_ret
  exact ⟨rfl, V.out⟩

end Go.Proofs.Ytplndcjmbgkcjaa
