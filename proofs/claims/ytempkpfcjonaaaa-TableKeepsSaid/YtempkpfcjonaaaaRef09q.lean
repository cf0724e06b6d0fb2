/-
  Layer 9's own New, where maps may be.
  Conditions: few maps; their definitions stay while memory turns.
-/
import Derived.Test.YtempkpfcjonaaaaRef09p
import Derived.Test.YtempkpfcjonaaaaRef08m
import Derived.Deep.RegionHeld
import Derived.Deep.RegionHeld3
import Derived.Deep.DeepCutAuto
namespace Go.Proofs.Ytempkpfcjonaaaa
open Go.RowKit
set_option maxRecDepth 100000
set_option linter.unusedVariables false
set_option linter.unusedSimpArgs false

/-- How many numbers a map has at first. -/
def nums (d : Df) : Nat := if d.hash then 0 else d.max.toNat
theorem nums_at {d : Df} (h : d.good = true) : nums d ≤ 16 ∧ (d.hash = true → nums d = 0) ∧ (d.hash = false → (nums d : Int) = d.max) := by
  have q := good_at h
  unfold nums
  cases hh : d.hash
  · exact ⟨by rw [if_neg Bool.false_ne_true]; omega, by simp, fun _ => by rw [if_neg Bool.false_ne_true]; omega⟩
  · exact ⟨by rw [if_pos rfl]; omega, fun _ => if_pos rfl, fun e => by cases e⟩
theorem ok_nums {d : Df} (h : d.good = true) : TM.ok ⟨d, numL (nums d), nums d⟩ := by
  cases hh : d.hash
  · have e : nums d = d.max.toNat := by unfold nums; rw [hh, if_neg Bool.false_ne_true]
    rw [e]; exact ok_num h hh
  · have e : nums d = 0 := by unfold nums; rw [hh, if_pos rfl]
    rw [e]; exact ok_hash h
theorem new_next {l : List Df} {j : Nat} {M M2 : PM} {T : TT} {d : Df} (h : j < l.length) (hd : l.getD j Df.zero = d) (hs : tSlots M j d.val.toNat 0 (nums d) = (M2, true)) : tNewG j (l.drop j) M T = tNewG (j + 1) (l.drop (j + 1)) M2 (T ++ [⟨d, numL (nums d), nums d⟩]) := by
  unfold nums at *
  cases hh : d.hash
  · rw [hh, if_neg Bool.false_ne_true] at hs
    rw [if_neg Bool.false_ne_true]
    rw [tNewG_num h (by rw [hd]; exact hh), hd, hs, if_pos rfl]
  · rw [hh, if_pos rfl] at hs
    rw [if_pos rfl]
    rw [tNewG_hash h (by rw [hd]; exact hh), hd]
    have : M = M2 := congrArg Prod.fst hs
    rw [this]
    rfl
theorem new_stop {l : List Df} {j : Nat} {M M2 : PM} {T : TT} {d : Df} (h : j < l.length) (hd : l.getD j Df.zero = d) (hh : d.hash = false) (hs : tSlots M j d.val.toNat 0 (nums d) = (M2, false)) : tNewG j (l.drop j) M T = (M2, none) := by
  unfold nums at hs
  rw [hh, if_neg Bool.false_ne_true] at hs
  rw [tNewG_num h (by rw [hd]; exact hh), hd, hs, if_neg Bool.false_ne_true]
theorem pMake_len (M : PM) (i : Int) (b : List Int) (bl fx : Bool) : (pMake M i b bl fx).1.length ≤ M.length + 1 := by
  unfold pMake
  split
  · exact Nat.le_succ _
  · split
    · exact Nat.le_succ _
    · simp

/-- A map is whole: it is laid behind the others. -/
theorem InS.close {w u w' : World} {gt g2 gx j nn : Nat} {G F G' : Nat → Prop} {M0 M1 M2 : PM} {l : List Df} {vl vk v' : Value} {L : List TR} {d : Df} (I : InS w gt g2 gx G vl L F d j nn M1 nn vk G' M2 u) (hlen : L.length = j) (hj : j < l.length) (hd : l.getD j Df.zero = d) (hnn : nums d = nn) (hg : d.good = true)
    (hall : tNewG j (l.drop j) M1 (trM L) = tNewG 0 l M0 []) (hrow : w'.ownsRow 0 85 6 v' (L.length + 1) (trC (L ++ [⟨⟨d, numL nn, nn⟩, vk⟩]))) (hgr : u.grownBy w' vl.ownBlock) (hat : v'.ownBlock = vl.ownBlock ∨ v'.ownBlock = some u.heap.size) :
    ∃ F', NewS w gt g2 G M0 l (j + 1) v' (L ++ [⟨⟨d, numL nn, nn⟩, vk⟩]) F' G' M2 (w'.setCell ⟨gt, 1, none⟩ v') := by
  have hs := I.slots
  rw [tSlots_end, ← hnn] at hs
  have hk := ok_nums hg
  rw [hnn] at hk
  refine newS_add I.maps I.mem I.apart I.turn I.foot I.new hlen hrow hgr hat (show KOwn u vk (numL nn) by unfold KOwn; rw [numL_len]; exact I.row) (fun x hx => ⟨(I.sep x hx).1, (I.sep x hx).2.1, (I.sep x hx).2.2.1⟩) hk ?_
  rw [← hall, new_next hj hd hs.symm, hnn]
  simp [trM]

end Go.Proofs.Ytempkpfcjonaaaa
