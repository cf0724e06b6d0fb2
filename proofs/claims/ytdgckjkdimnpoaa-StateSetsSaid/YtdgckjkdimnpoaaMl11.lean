/-
  Texts, one behind the other: St12, St13, StShown, Frame, Base.
  Conditions: those that each theorem states.
-/
import Derived.Test.YtdgckjkdimnpoaaMl10
import Derived.WalkKit
import Derived.ProofKit
import Derived.OpenShut
import Derived.ChangeOld
import Derived.Below
import Derived.Carry
import Derived.Test.YtdgckjkdimnpoaaRows

namespace Go.Proofs.Ytdgckjkdimnpoaa
open Go Go.RowKit
set_option maxRecDepth 100000
set_option linter.unusedVariables false
set_option linter.unusedSimpArgs false

/-- Something was put to each of so many bytes, one by one, just if all their bits are 1. -/
def allAt (p : BitVec 8) (r n : Nat) : Bool := (List.range n).all fun i => pAll p (((1#8 <<< 1) - 1#8) <<< (r + i))
theorem allAt_1 : ∀ p : BitVec 8, ∀ r : Fin 8, allAt p r.val 1 = pAll p (((1#8 <<< 1) - 1#8) <<< r.val) := by decide +kernel
theorem allAt_2 : ∀ p : BitVec 8, ∀ r : Fin 4, allAt p (2 * r.val) 2 = pAll p (((1#8 <<< 2) - 1#8) <<< (2 * r.val)) := by decide +kernel
theorem allAt_4 : ∀ p : BitVec 8, ∀ r : Fin 2, allAt p (4 * r.val) 4 = pAll p (((1#8 <<< 4) - 1#8) <<< (4 * r.val)) := by decide +kernel
theorem allAt_8 : ∀ p : BitVec 8, allAt p 0 8 = pAll p (((1#8 <<< 8) - 1#8) <<< 0) := by decide +kernel
theorem all_congr {n : Nat} {f g : Nat → Bool} (h : ∀ i, i < n → f i = g i) : (List.range n).all f = (List.range n).all g := by
  rw [Bool.eq_iff_iff, List.all_eq_true, List.all_eq_true]
  constructor
  · intro k i hi
    rw [← h i (List.mem_range.mp hi)]; exact k i hi
  · intro k i hi
    rw [h i (List.mem_range.mp hi)]; exact k i hi
theorem full_bits {x : St} {off size : Int} (hr : stR x = true) (hs : isSz size = true) (hz : rch off size = 0) : full x off size = pAll (x.s (off / 8).toNat).p (pBits off size) := by
  obtain ⟨k1, k2, k3⟩ := rch_ok hs hz
  obtain ⟨o, rfl⟩ : ∃ o : Nat, off = (o : Int) := ⟨off.toNat, by omega⟩
  have ht : there (o : Int) size = true := there_iff.mpr ⟨k1, by rcases isSz_iff.mp hs with rfl | rfl | rfl | rfl <;> omega, k2⟩
  have e : full x o size = allAt (x.s (o / 8)).p (o % 8) size.toNat := by
    unfold full allAt
    rw [hr, ht, Bool.true_and, Bool.true_and]
    apply all_congr
    intro i hi
    unfold pAt pBits
    rw [Int.toNat_natCast, show (o + i) / 8 = o / 8 by rcases isSz_iff.mp hs with rfl | rfl | rfl | rfl <;> simp at hi <;> omega, show ((((o + i : Nat) : Int)) % 8).toNat = o % 8 + i by rcases isSz_iff.mp hs with rfl | rfl | rfl | rfl <;> simp at hi <;> omega]
    rfl
  rw [e]
  unfold pBits
  rw [show ((o : Int) / 8).toNat = o / 8 by omega, show ((o : Int) % 8).toNat = o % 8 by omega]
  rcases isSz_iff.mp hs with rfl | rfl | rfl | rfl
  · exact allAt_1 _ ⟨o % 8, by omega⟩
  · have := allAt_2 (x.s (o / 8)).p ⟨o % 8 / 2, by omega⟩
    rw [show 2 * (o % 8 / 2) = o % 8 by omega] at this
    exact this
  · have := allAt_4 (x.s (o / 8)).p ⟨o % 8 / 4, by omega⟩
    rw [show 4 * (o % 8 / 4) = o % 8 by omega] at this
    exact this
  · rw [show o % 8 = 0 by omega]
    exact allAt_8 _

set_option maxHeartbeats 8000000 in
theorem sr_Get (x : St) (off size : Int) (w : World) (hx : stIn x) (ho : -9223372036854775808 ≤ off ∧ off ≤ 9223372036854775807) : Calls Try.prog 22 #[stV x, .int .i64 off, .int .i64 size] w (Gives (.tuple #[vV (getY x off size), .int .i64 (getE x off size)]) w) := by
  have RA := Lib.hid fun w => sr_right x w hx
  have SZ := Lib.hid fun w => sr_number size w
  have FU := Lib.hid fun w => sr_Full x off size w hx
  have X0 := Lib.hid (StBox.new x w)
  have hz1 : (w.alloc (.cells (stC x) 36)).heap.size = w.heap.size + 1 := by simp
  cases hra : stR x
  · obtain ⟨e1, e2⟩ := getE_no (x := x) (off := off) (size := size) (by rw [hra]; rfl)
    rw [e1, e2]
    rw [hra] at RA
    clear e1 e2 hra SZ
    go_enter Try.func22, Try.ntmps22
    go_wp2_with (first | (refine st_load rfl _ rfl rfl X0.out.1 ?_) | fail)
    refine (RA.out _).mono ?_; rintro e w1 ⟨rfl, b1⟩
    have X1 := Lib.hid (X0.out.after b1)
    clear X0 b1
    have X9 := Lib.hid (X1.out.give vZ)
    go_wp2_with (first | (refine st_storeV rfl _ _ rfl (g := w.heap.size + 1) (o := 0) (v := vZ) rfl rfl (vB_there X1.out.2.1) ?_) | fail)
    generalize w1.setCells (w.heap.size + 1) 0 (vL vZ) = w9 at *
    exact bodyPost_ret (v := .tuple #[vV vZ, .int .i64 1]) (by rw [results_cell_tmp rfl]; simp [asAddr, Act.put, Result.andThen, vB_result X9.out.1]) rfl ⟨rfl, X9.out.2⟩
  cases hsz : isSz size
  · obtain ⟨e1, e2⟩ := getE_no (x := x) (off := off) (size := size) (by rw [hsz, Bool.and_false])
    rw [e1, e2]
    rw [hra] at RA
    rw [hsz] at SZ
    clear e1 e2 hra hsz
    go_enter Try.func22, Try.ntmps22
    go_wp2_with (first | (refine st_load rfl _ rfl rfl X0.out.1 ?_) | fail)
    refine (RA.out _).mono ?_; rintro e w1 ⟨rfl, b1⟩
    have X1 := Lib.hid (X0.out.after b1)
    clear X0 b1
    go_wp2_with fail
    refine (SZ.out _).mono ?_; rintro e w2 ⟨rfl, b2⟩
    have X2 := Lib.hid (X1.out.after b2)
    clear X1 b2
    have X9 := Lib.hid (X2.out.give vZ)
    go_wp2_with (first | (refine st_storeV rfl _ _ rfl (g := w.heap.size + 1) (o := 0) (v := vZ) rfl rfl (vB_there X2.out.2.1) ?_) | fail)
    generalize w2.setCells (w.heap.size + 1) 0 (vL vZ) = w9 at *
    exact bodyPost_ret (v := .tuple #[vV vZ, .int .i64 1]) (by rw [results_cell_tmp rfl]; simp [asAddr, Act.put, Result.andThen, vB_result X9.out.1]) rfl ⟨rfl, X9.out.2⟩
  have RC := Lib.hid fun w => sr_fits off size hsz ho w
  have hgo : (stR x && isSz size) = true := by rw [hra, hsz]; rfl
  rw [hsz] at SZ
  by_cases hr : rch off size = 0
  · obtain ⟨k1, k2, k3⟩ := rch_ok hsz hr
    have NU := Lib.hid fun w => sr_below size hsz w
    rw [full_bits hra hsz hr] at FU
    rw [hra] at RA
    obtain ⟨q, hq, hq3, hq2⟩ : ∃ q : Nat, off.tdiv 8 = (q : Int) ∧ (off / 8).toNat = q ∧ q < 64 := ⟨(off / 8).toNat, by rw [Int.tdiv_eq_ediv_of_nonneg k1]; omega, rfl, by rcases isSz_iff.mp hsz with rfl | rfl | rfl | rfl <;> omega⟩
    have hqI : (q : Int) < 64 := by omega
    replace hq2 := Lib.hid hq2
    rw [hq3] at FU
    cases hp : pAll (x.s q).p (pBits off size)
    · obtain ⟨e1, e2⟩ := getE_blank hgo hr (by rw [hq3]; exact hp)
      rw [e1, e2]
      rw [hr] at RC
      rw [hp] at FU
      clear e1 e2 hra hsz hr k1 k2 k3 hq3 ho hgo hp NU
      go_enter Try.func22, Try.ntmps22
      go_wp2_with (first | (refine st_load rfl _ rfl rfl X0.out.1 ?_) | fail)
      refine (RA.out _).mono ?_; rintro e w1 ⟨rfl, b1⟩
      have X1 := Lib.hid (X0.out.after b1)
      clear X0 b1
      go_wp2_with fail
      refine (SZ.out _).mono ?_; rintro e w2 ⟨rfl, b2⟩
      have X2 := Lib.hid (X1.out.after b2)
      clear X1 b2
      go_wp2_with fail
      refine (RC.out _).mono ?_; rintro e w3 ⟨rfl, b3⟩
      have X3 := Lib.hid (X2.out.after b3)
      clear X2 b3
      go_wp2_with (first | (refine st_load rfl _ rfl rfl X3.out.1 ?_) | fail)
      refine (FU.out _).mono ?_; rintro e w4 ⟨rfl, b4⟩
      have X4 := Lib.hid (X3.out.after b4)
      clear X3 b4
      have X9 := Lib.hid (X4.out.give vZ)
      go_wp2_with (first | (refine st_storeV rfl _ _ rfl (g := w.heap.size + 1) (o := 0) (v := vZ) rfl rfl (vB_there X4.out.2.1) ?_) | fail)
      generalize w4.setCells (w.heap.size + 1) 0 (vL vZ) = w9 at *
      exact bodyPost_ret (v := .tuple #[vV vZ, .int .i64 81]) (by rw [results_cell_tmp rfl]; simp [asAddr, Act.put, Result.andThen, vB_result X9.out.1]) rfl ⟨rfl, X9.out.2⟩
    obtain ⟨e1, e2⟩ := getE_ok hgo hr (by rw [hq3]; exact hp)
    rw [e1, e2]
    rw [hr] at RC
    rw [hp] at FU
    clear e1 e2 hra hr k1 k2 k3 ho hgo hp
    cases h8 : (size == 8)
    · rw [getV_bel1 h8]
      clear hsz hq3
      generalize bel size = V at *
      go_enter Try.func22, Try.ntmps22
      go_wp2_with (first | (refine st_load rfl _ rfl rfl X0.out.1 ?_) | fail)
      refine (RA.out _).mono ?_; rintro e w1 ⟨rfl, b1⟩
      have X1 := Lib.hid (X0.out.after b1)
      clear X0 b1
      go_wp2_with fail
      refine (SZ.out _).mono ?_; rintro e w2 ⟨rfl, b2⟩
      have X2 := Lib.hid (X1.out.after b2)
      clear X1 b2
      go_wp2_with fail
      refine (RC.out _).mono ?_; rintro e w3 ⟨rfl, b3⟩
      have X3 := Lib.hid (X2.out.after b3)
      clear X2 b3
      go_wp2_with (first | (refine st_load rfl _ rfl rfl X3.out.1 ?_) | fail)
      refine (FU.out _).mono ?_; rintro e w4 ⟨rfl, b4⟩
      have X4 := Lib.hid (X3.out.after b4)
      clear X3 b4
      go_wp2_with fail
      refine (NU.out _).mono ?_; rintro e w5 ⟨rfl, b8⟩
      have X5 := Lib.hid (X4.out.after b8)
      clear b8 NU
      have X9 := Lib.hid (X5.out.give V)
      go_wp2_with (first | (refine st_storeV rfl _ _ rfl (g := w.heap.size + 1) (o := 0) (v := V) rfl rfl (vB_there X5.out.2.1) ?_) | fail)
      generalize w5.setCells (w.heap.size + 1) 0 (vL V) = w9 at *
      exact bodyPost_ret (v := .tuple #[vV V, .int .i64 0]) (by rw [results_cell_tmp rfl]; simp [asAddr, Act.put, Result.andThen, vB_result X9.out.1]) rfl ⟨rfl, X9.out.2⟩
    cases hk : ((x.s q).v.k == 0)
    · rw [getV_whole h8 (by rw [hq3]; exact hk), hq3]
      have hk' : ((x.s q).v.k != 0) = true := by simp [bne, hk]
      clear hsz hq3 NU hk
      obtain ⟨V, hV⟩ : ∃ V, V = (x.s q).v := ⟨_, rfl⟩
      rw [← hV]
      replace hV := Lib.hid hV
      go_enter Try.func22, Try.ntmps22
      go_wp2_with (first | (refine st_load rfl _ rfl rfl X0.out.1 ?_) | fail)
      refine (RA.out _).mono ?_; rintro e w1 ⟨rfl, b1⟩
      have X1 := Lib.hid (X0.out.after b1)
      clear X0 b1
      go_wp2_with fail
      refine (SZ.out _).mono ?_; rintro e w2 ⟨rfl, b2⟩
      have X2 := Lib.hid (X1.out.after b2)
      clear X1 b2
      go_wp2_with fail
      refine (RC.out _).mono ?_; rintro e w3 ⟨rfl, b3⟩
      have X3 := Lib.hid (X2.out.after b3)
      clear X2 b3
      go_wp2_with (first | (refine st_load rfl _ rfl rfl X3.out.1 ?_) | fail)
      refine (FU.out _).mono ?_; rintro e w4 ⟨rfl, b4⟩
      have X4 := Lib.hid (X3.out.after b4)
      clear X3 b4
      have SR : Hid (w4.rangeAt w.heap.size (77 + q * 8) (vL V)) := Lib.hid (by rw [hV.out]; exact st_slotv X4.out.1 hq2.out (by omega))
      obtain ⟨s0, s1, s2, s3, s4, s5, s6, s7⟩ := slot_cells X4.out.1 hq2.out
      go_upto_region 9 with fail
      clear s0 s1 s2 s3 s4 s5 s6 s7
      have X9 := Lib.hid (X4.out.give V)
      go_wp2_with (first | (refine st_loadV rfl _ rfl rfl SR.out ?_) | (refine st_storeV rfl _ _ rfl (g := w.heap.size + 1) (o := 0) (v := V) rfl rfl (vB_there X4.out.2.1) ?_) | fail)
      generalize w4.setCells (w.heap.size + 1) 0 (vL V) = w9 at *
      exact bodyPost_ret (v := .tuple #[vV V, .int .i64 0]) (by rw [results_cell_tmp rfl]; simp [asAddr, Act.put, Result.andThen, vB_result X9.out.1]) rfl ⟨rfl, X9.out.2⟩
    · rw [getV_bel2 (by rw [hq3]; exact hk)]
      have hk' : ((x.s q).v.k != 0) = false := by simp [bne, hk]
      clear hsz hq3 hk
      generalize bel size = V at *
      go_enter Try.func22, Try.ntmps22
      go_wp2_with (first | (refine st_load rfl _ rfl rfl X0.out.1 ?_) | fail)
      refine (RA.out _).mono ?_; rintro e w1 ⟨rfl, b1⟩
      have X1 := Lib.hid (X0.out.after b1)
      clear X0 b1
      go_wp2_with fail
      refine (SZ.out _).mono ?_; rintro e w2 ⟨rfl, b2⟩
      have X2 := Lib.hid (X1.out.after b2)
      clear X1 b2
      go_wp2_with fail
      refine (RC.out _).mono ?_; rintro e w3 ⟨rfl, b3⟩
      have X3 := Lib.hid (X2.out.after b3)
      clear X2 b3
      go_wp2_with (first | (refine st_load rfl _ rfl rfl X3.out.1 ?_) | fail)
      refine (FU.out _).mono ?_; rintro e w4 ⟨rfl, b4⟩
      have X4 := Lib.hid (X3.out.after b4)
      clear X3 b4
      obtain ⟨s0, s1, s2, s3, s4, s5, s6, s7⟩ := slot_cells X4.out.1 hq2.out
      go_wp2_with fail
      refine (NU.out _).mono ?_; rintro e w5 ⟨rfl, b8⟩
      have X5 := Lib.hid (X4.out.after b8)
      clear b8 NU
      have X9 := Lib.hid (X5.out.give V)
      go_wp2_with (first | (refine st_storeV rfl _ _ rfl (g := w.heap.size + 1) (o := 0) (v := V) rfl rfl (vB_there X5.out.2.1) ?_) | fail)
      generalize w5.setCells (w.heap.size + 1) 0 (vL V) = w9 at *
      exact bodyPost_ret (v := .tuple #[vV V, .int .i64 0]) (by rw [results_cell_tmp rfl]; simp [asAddr, Act.put, Result.andThen, vB_result X9.out.1]) rfl ⟨rfl, X9.out.2⟩
  · obtain ⟨e1, e2⟩ := getE_err hgo hr
    rw [e1, e2]
    rw [hra] at RA
    generalize rch off size = E at *
    have hE : (E != 0) = true := by simpa using hr
    clear e1 e2 hra hsz hr hgo
    go_enter Try.func22, Try.ntmps22
    go_wp2_with (first | (refine st_load rfl _ rfl rfl X0.out.1 ?_) | fail)
    refine (RA.out _).mono ?_; rintro e w1 ⟨rfl, b1⟩
    have X1 := Lib.hid (X0.out.after b1)
    clear X0 b1
    go_wp2_with fail
    refine (SZ.out _).mono ?_; rintro e w2 ⟨rfl, b2⟩
    have X2 := Lib.hid (X1.out.after b2)
    clear X1 b2
    go_wp2_with fail
    refine (RC.out _).mono ?_; rintro e w3 ⟨rfl, b3⟩
    have X3 := Lib.hid (X2.out.after b3)
    clear X2 b3
    have X9 := Lib.hid (X3.out.give vZ)
    go_wp2_with (first | (refine st_storeV rfl _ _ rfl (g := w.heap.size + 1) (o := 0) (v := vZ) rfl rfl (vB_there X3.out.2.1) ?_) | fail)
    generalize w3.setCells (w.heap.size + 1) 0 (vL vZ) = w9 at *
    exact bodyPost_ret (v := .tuple #[vV vZ, .int .i64 E]) (by rw [results_cell_tmp rfl]; simp [asAddr, Act.put, Result.andThen, vB_result X9.out.1]) rfl ⟨rfl, X9.out.2⟩

end Go.Proofs.Ytdgckjkdimnpoaa

namespace Go.Proofs.Ytdgckjkdimnpoaa
open Go Go.RowKit
set_option maxRecDepth 100000
set_option linter.unusedVariables false
set_option linter.unusedSimpArgs false

/-- One bit; a slot's Put behind k bytes from its byte r on. -/
def oneB (t : Nat) : BitVec 8 := ((1#8 <<< 1) - 1#8) <<< t
def pk (p : BitVec 8) (r k : Nat) : BitVec 8 := p ||| (((1#8 <<< k) - 1#8) <<< r)
theorem pk_zero (p : BitVec 8) (r : Nat) : pk p r 0 = p := by
  unfold pk
  rw [show (1#8 <<< 0) - 1#8 = 0#8 from rfl, BitVec.zero_shiftLeft, BitVec.or_zero]
theorem bits_step : ∀ r j : Fin 8, r.val + j.val < 8 → ((1#8 <<< (j.val + 1)) - 1#8) <<< r.val = (((1#8 <<< j.val) - 1#8) <<< r.val) ||| oneB (r.val + j.val) := by decide +kernel
theorem pk_step (p : BitVec 8) {r j : Nat} (h : r + j < 8) : pk p r (j + 1) = pk p r j ||| oneB (r + j) := by
  unfold pk
  rw [bits_step ⟨r, by omega⟩ ⟨j, by omega⟩ h, BitVec.or_assoc]
theorem one_set : ∀ P : BitVec 8, ∀ t : Fin 8, pAll P (oneB t.val) = true → P ||| oneB t.val = P := by decide +kernel
theorem one_new : ∀ P : BitVec 8, ∀ t : Fin 8, pAll P (oneB t.val) = false → (P.toNat + 2 ^ t.val) % 256 = (P ||| oneB t.val).toNat := by decide +kernel
theorem whole_8 : ∀ p : BitVec 8, p ||| (((1#8 <<< 8) - 1#8) <<< 0) = 255#8 := by decide +kernel
theorem St.slot_slot (x : St) (q : Nat) (y z : Sl) : (x.slot q y).slot q z = x.slot q z := by
  unfold St.slot
  congr 1
  funext k
  show (if k = q then z else if k = q then y else x.s k) = if k = q then z else x.s k
  by_cases h : k = q
  · rw [if_pos h, if_pos h]
  · rw [if_neg h, if_neg h, if_neg h]
theorem St.slot_at (x : St) (q : Nat) (y : Sl) : (x.slot q y).s q = y := if_pos rfl
theorem stIn_slot {x : St} (hx : stIn x) (q : Nat) {y : Sl} (hy : slIn y) : stIn (x.slot q y) := ⟨hx.1, fun i => by
  show slIn (if i = q then y else x.s i)
  split
  · exact hy
  · exact hx.2 i⟩
theorem StTrio.setv {x : St} {v : Vl} {w u : World} (h : StTrio x v w u) {q : Nat} (hq : q < 64) (y : Vl) : StTrio (x.slot q ⟨y, (x.s q).p⟩) v w (u.setCells w.heap.size (77 + q * 8) (vL y)) := by
  refine ⟨st_setv h.1 hq (by omega) y, ?_, h.2.2.1.sets_other (vL y) (by omega), below_sets (Nat.le_refl _) _ _ _ h.2.2.2⟩
  have aux : ∀ (vs : List Value) (o : Nat) (u : World), vB (w.heap.size + 1) v u → vB (w.heap.size + 1) v (u.setCells w.heap.size o vs) := by
    intro vs
    induction vs with
    | nil => intro o u h; exact h
    | cons c r ih => intro o u h; exact ih (o + 1) _ (Blk.other h c (by omega))
  exact aux (vL y) _ u h.2.1
theorem StTrio.setp {x : St} {v : Vl} {w u : World} (h : StTrio x v w u) {q : Nat} (hq : q < 64) (p : BitVec 8) : StTrio (x.slot q ⟨(x.s q).v, p⟩) v w (u.setCell ⟨w.heap.size, 77 + q * 8 + 7, none⟩ (bV p)) := by
  have e : 77 + q * 8 + 7 = 77 + 8 * q + 7 := by omega
  rw [e]
  exact ⟨st_setp h.1 hq p, Blk.other h.2.1 _ (by omega), Blk.other h.2.2.1 _ (by omega), h.2.2.2.setCell (p := ⟨w.heap.size, 77 + 8 * q + 7, none⟩) (Nat.le_refl _) _⟩
theorem mayP_no0 {size : Int} {v : Vl} (h : (v.k == 0) = true) : mayP size v = false := by unfold mayP; rw [h]; rfl
theorem mayP_no1 {size : Int} {v : Vl} (h : vR v = false) : mayP size v = false := by unfold mayP; rw [h, Bool.false_and, Bool.and_false]
theorem mayP_no2 {size : Int} {v : Vl} (h : (size == 8) = false) (h1 : (v.k == 1) = false) : mayP size v = false := by unfold mayP; rw [h, h1]; simp
theorem mayP_yes {size : Int} {v : Vl} (h0 : (v.k == 0) = false) (hr : vR v = true) (h : (size == 8) = true ∨ (v.k == 1) = true) : mayP size v = true := by
  unfold mayP
  rw [h0, hr]
  rcases h with h | h <;> rw [h] <;> simp

set_option maxHeartbeats 8000000 in
theorem sr_Put (x : St) (off size : Int) (v : Vl) (w : World) (hx : stIn x) (hv : vIn v) (ho : -9223372036854775808 ≤ off ∧ off ≤ 9223372036854775807) : Calls Try.prog 18 #[stV x, .int .i64 off, .int .i64 size, vV v] w (Gives (.tuple #[stV (putY x off size v), .int .i64 (putE x off size v)]) w) := by
  have RA := Lib.hid fun w => sr_right x w hx
  have SZ := Lib.hid fun w => sr_number size w
  have VR := Lib.hid fun w => rv_right v w hv
  have X0 := Lib.hid (StTrio.new x v w)
  have hz1 : (w.alloc (.cells (stC x) 36)).heap.size = w.heap.size + 1 := by simp
  have hz2 : ((w.alloc (.cells (stC x) 36)).alloc (.cells (vCells v) 30)).heap.size = w.heap.size + 2 := by simp
  cases hra : stR x
  · obtain ⟨e1, e2⟩ := putE_no (x := x) (off := off) (size := size) (v := v) (by rw [hra]; rfl)
    rw [e1, e2]
    rw [hra] at RA
    clear e1 e2 hra SZ VR
    go_enter Try.func18, Try.ntmps18
    go_wp2_with (first | (refine st_load rfl _ rfl rfl X0.out.1 ?_) | fail)
    refine (RA.out _).mono ?_; rintro e w1 ⟨rfl, b1⟩
    have X1 := Lib.hid (X0.out.after b1)
    clear X0 b1
    have X9 := Lib.hid X1.out.zero
    go_wp2_with (first | (refine st_storeZ rfl _ _ rfl rfl rfl X1.out.2.2.1 ?_) | fail)
    generalize w1.setRow (w.heap.size + 2) (stC stZ) = w9 at *
    exact bodyPost_ret (v := .tuple #[stV stZ, .int .i64 1]) (by rw [results_cell_tmp rfl]; simp [asAddr, Act.put, Result.andThen, st_result X9.out.1]) rfl ⟨rfl, X9.out.2⟩
  cases hsz : isSz size
  · obtain ⟨e1, e2⟩ := putE_no (x := x) (off := off) (size := size) (v := v) (by rw [hsz, Bool.false_and, Bool.and_false])
    rw [e1, e2]
    rw [hra] at RA
    rw [hsz] at SZ
    clear e1 e2 hra hsz VR
    go_enter Try.func18, Try.ntmps18
    go_wp2_with (first | (refine st_load rfl _ rfl rfl X0.out.1 ?_) | fail)
    refine (RA.out _).mono ?_; rintro e w1 ⟨rfl, b1⟩
    have X1 := Lib.hid (X0.out.after b1)
    clear X0 b1
    go_wp2_with fail
    refine (SZ.out _).mono ?_; rintro e w2 ⟨rfl, b2⟩
    have X2 := Lib.hid (X1.out.after b2)
    clear X1 b2
    have X9 := Lib.hid X2.out.zero
    go_wp2_with (first | (refine st_storeZ rfl _ _ rfl rfl rfl X2.out.2.2.1 ?_) | fail)
    generalize w2.setRow (w.heap.size + 2) (stC stZ) = w9 at *
    exact bodyPost_ret (v := .tuple #[stV stZ, .int .i64 1]) (by rw [results_cell_tmp rfl]; simp [asAddr, Act.put, Result.andThen, st_result X9.out.1]) rfl ⟨rfl, X9.out.2⟩
  cases hk0 : (v.k == 0)
  rotate_left 1
  · obtain ⟨e1, e2⟩ := putE_no (x := x) (off := off) (size := size) (v := v) (by rw [mayP_no0 hk0, Bool.and_false, Bool.and_false])
    rw [e1, e2]
    rw [hra] at RA
    rw [hsz] at SZ
    clear e1 e2 hra hsz VR
    go_enter Try.func18, Try.ntmps18
    go_wp2_with (first | (refine st_load rfl _ rfl rfl X0.out.1 ?_) | fail)
    refine (RA.out _).mono ?_; rintro e w1 ⟨rfl, b1⟩
    have X1 := Lib.hid (X0.out.after b1)
    clear X0 b1
    go_wp2_with fail
    refine (SZ.out _).mono ?_; rintro e w2 ⟨rfl, b2⟩
    have X2 := Lib.hid (X1.out.after b2)
    clear X1 b2
    obtain ⟨c0, c1, c2, c3, c4, c5, c6⟩ := vB.cells X2.out.2.1
    have X9 := Lib.hid X2.out.zero
    go_wp2_with (first | (refine st_storeZ rfl _ _ rfl rfl rfl X2.out.2.2.1 ?_) | fail)
    generalize w2.setRow (w.heap.size + 2) (stC stZ) = w9 at *
    exact bodyPost_ret (v := .tuple #[stV stZ, .int .i64 1]) (by rw [results_cell_tmp rfl]; simp [asAddr, Act.put, Result.andThen, st_result X9.out.1]) rfl ⟨rfl, X9.out.2⟩
  cases hvr : vR v
  · obtain ⟨e1, e2⟩ := putE_no (x := x) (off := off) (size := size) (v := v) (by rw [mayP_no1 hvr, Bool.and_false, Bool.and_false])
    rw [e1, e2]
    rw [hra] at RA
    rw [hsz] at SZ
    rw [hvr] at VR
    clear e1 e2 hra hsz hvr
    go_enter Try.func18, Try.ntmps18
    go_wp2_with (first | (refine st_load rfl _ rfl rfl X0.out.1 ?_) | fail)
    refine (RA.out _).mono ?_; rintro e w1 ⟨rfl, b1⟩
    have X1 := Lib.hid (X0.out.after b1)
    clear X0 b1
    go_wp2_with fail
    refine (SZ.out _).mono ?_; rintro e w2 ⟨rfl, b2⟩
    have X2 := Lib.hid (X1.out.after b2)
    clear X1 b2
    obtain ⟨c0, c1, c2, c3, c4, c5, c6⟩ := vB.cells X2.out.2.1
    go_wp2_with fail
    refine (VR.out _).mono ?_; rintro e w3 ⟨rfl, b3⟩
    have X3 := Lib.hid (X2.out.after b3)
    clear X2 b3 c0 c1 c2 c3 c4 c5 c6
    obtain ⟨c0, c1, c2, c3, c4, c5, c6⟩ := vB.cells X3.out.2.1
    have X9 := Lib.hid X3.out.zero
    go_wp2_with (first | (refine st_storeZ rfl _ _ rfl rfl rfl X3.out.2.2.1 ?_) | fail)
    generalize w3.setRow (w.heap.size + 2) (stC stZ) = w9 at *
    exact bodyPost_ret (v := .tuple #[stV stZ, .int .i64 1]) (by rw [results_cell_tmp rfl]; simp [asAddr, Act.put, Result.andThen, st_result X9.out.1]) rfl ⟨rfl, X9.out.2⟩
  have h8k : ((size == 8) = false ∧ (v.k == 1) = false) ∨ ((size == 8) = true ∨ (v.k == 1) = true) := by
    cases (size == 8) <;> cases (v.k == 1) <;> simp
  rcases h8k with ⟨h8, h1⟩ | h8k
  · obtain ⟨e1, e2⟩ := putE_no (x := x) (off := off) (size := size) (v := v) (by rw [mayP_no2 h8 h1, Bool.and_false, Bool.and_false])
    rw [e1, e2]
    rw [hra] at RA
    rw [hvr] at VR
    have k8 : size < 8 := by
      rcases isSz_iff.mp hsz with rfl | rfl | rfl | rfl
      · omega
      · omega
      · omega
      · cases h8
    have h1' : (v.k != 1) = true := by simp [bne, h1]
    rw [hsz] at SZ
    clear e1 e2 hra hsz hvr h8
    go_enter Try.func18, Try.ntmps18
    go_wp2_with (first | (refine st_load rfl _ rfl rfl X0.out.1 ?_) | fail)
    refine (RA.out _).mono ?_; rintro e w1 ⟨rfl, b1⟩
    have X1 := Lib.hid (X0.out.after b1)
    clear X0 b1
    go_wp2_with fail
    refine (SZ.out _).mono ?_; rintro e w2 ⟨rfl, b2⟩
    have X2 := Lib.hid (X1.out.after b2)
    clear X1 b2
    obtain ⟨c0, c1, c2, c3, c4, c5, c6⟩ := vB.cells X2.out.2.1
    go_wp2_with fail
    refine (VR.out _).mono ?_; rintro e w3 ⟨rfl, b3⟩
    have X3 := Lib.hid (X2.out.after b3)
    clear X2 b3 c0 c1 c2 c3 c4 c5 c6
    obtain ⟨c0, c1, c2, c3, c4, c5, c6⟩ := vB.cells X3.out.2.1
    have X9 := Lib.hid X3.out.zero
    go_wp2_with (first | (refine st_storeZ rfl _ _ rfl rfl rfl X3.out.2.2.1 ?_) | fail)
    generalize w3.setRow (w.heap.size + 2) (stC stZ) = w9 at *
    exact bodyPost_ret (v := .tuple #[stV stZ, .int .i64 1]) (by rw [results_cell_tmp rfl]; simp [asAddr, Act.put, Result.andThen, st_result X9.out.1]) rfl ⟨rfl, X9.out.2⟩
  have hmp := mayP_yes hk0 hvr h8k
  have RC := Lib.hid fun w => sr_fits off size hsz ho w
  have hgo : (stR x && (isSz size && mayP size v)) = true := by rw [hra, hsz, hmp]; rfl
  rw [hra] at RA
  rw [hvr] at VR
  have h8d : (size < 8 ∧ (v.k != 1) = false) ∨ ¬ size < 8 := by
    rcases h8k with h | h
    · right
      rw [beq_iff_eq] at h
      omega
    · by_cases k : size < 8
      · left
        exact ⟨k, by simp [bne, h]⟩
      · exact .inr k
  clear h8k
  by_cases hr : rch off size = 0
  · obtain ⟨e1, e2⟩ := putE_ok (x := x) (off := off) (size := size) (v := v) hgo hr
    rw [e1, e2]
    obtain ⟨k1, k2, k3⟩ := rch_ok hsz hr
    obtain ⟨o, rfl⟩ : ∃ o : Nat, off = (o : Int) := ⟨off.toNat, by omega⟩
    obtain ⟨q, hq, hq3, hq2⟩ : ∃ q : Nat, (o : Int).tdiv 8 = (q : Int) ∧ o / 8 = q ∧ q < 64 := ⟨o / 8, by rw [Int.tdiv_eq_ediv_of_nonneg k1]; omega, rfl, by rcases isSz_iff.mp hsz with rfl | rfl | rfl | rfl <;> omega⟩
    have hqI : (q : Int) < 64 := by omega
    replace hq2 := Lib.hid hq2
    have key : putX x (o : Int) size v = x.slot q ⟨putV size v, (x.s q).p ||| pBits (o : Int) size⟩ := by unfold putX putS putV; rw [show ((o : Int) / 8).toNat = q by omega]
    rw [hr] at RC
    cases h8 : (size == 8)
    · have k8 : size < 8 := by
        rcases isSz_iff.mp hsz with rfl | rfl | rfl | rfl
        · omega
        · omega
        · omega
        · cases h8
      have h1' : (v.k != 1) = false := by
        rcases h8d with h | h
        · exact h.2
        · exact absurd k8 h
      obtain ⟨n, rfl⟩ : ∃ n : Nat, size = (n : Int) := ⟨size.toNat, by rcases isSz_iff.mp hsz with rfl | rfl | rfl | rfl <;> omega⟩
      have hrn : Hid (o % 8 + n ≤ 8 ∧ o + n ≤ 512) := Lib.hid (by
        rcases isSz_iff.mp hsz with h | h | h | h <;> rw [h] at k3 <;> omega)
      have hn0 : (0 : Int) ≤ (n : Int) := by omega
      have hon : IntKind.i64.wrap ((o : Int) + (n : Int)) = (o : Int) + (n : Int) := by rw [IntKind.wrap_i64]; have := hrn.out; omega
      rw [putV_no h8] at key
      have key2 : putX x (o : Int) (n : Int) v = x.slot q ⟨vZ, pk (x.s q).p (o % 8) n⟩ := by
        rw [key]
        unfold pk pBits
        rw [show ((o : Int) % 8).toNat = o % 8 by omega, Int.toNat_natCast]
      rw [key2]
      have PT := Lib.hid fun (k a : Nat) (ha : a < 512) w => sr_put (x.slot q ⟨vZ, pk (x.s q).p (o % 8) k⟩) a ha w
      have hqn : Hid (o / 8 = q) := Lib.hid hq3
      have hqw : IntKind.i64.wrap (q : Int) = (q : Int) := by rw [IntKind.wrap_i64]; omega
      rw [hsz] at SZ
      clear e1 e2 hra hsz hvr hr k2 k3 key key2 hq3 ho hgo hmp h8d
      obtain ⟨p, hp⟩ : ∃ p, p = (x.s q).p := ⟨_, rfl⟩
      obtain ⟨r, hr⟩ : ∃ r, r = o % 8 := ⟨_, rfl⟩
      rw [← hp, ← hr]
      rw [← hp, ← hr] at PT
      rw [← hr] at hrn
      replace hp := Lib.hid hp
      replace hr := Lib.hid hr
      obtain ⟨F, hF⟩ : ∃ F, F = x.slot q ⟨vZ, pk p r n⟩ := ⟨_, rfl⟩
      rw [← hF]
      replace hF := Lib.hid hF
      go_enter Try.func18, Try.ntmps18
      go_wp2_with (first | (refine st_load rfl _ rfl rfl X0.out.1 ?_) | fail)
      refine (RA.out _).mono ?_; rintro e w1 ⟨rfl, b1⟩
      have X1 := Lib.hid (X0.out.after b1)
      clear X0 b1
      go_wp2_with fail
      refine (SZ.out _).mono ?_; rintro e w2 ⟨rfl, b2⟩
      have X2 := Lib.hid (X1.out.after b2)
      clear X1 b2
      obtain ⟨c0, c1, c2, c3, c4, c5, c6⟩ := vB.cells X2.out.2.1
      go_wp2_with fail
      refine (VR.out _).mono ?_; rintro e w3 ⟨rfl, b3⟩
      have X3 := Lib.hid (X2.out.after b3)
      clear X2 b3 c0 c1 c2 c3 c4 c5 c6
      obtain ⟨c0, c1, c2, c3, c4, c5, c6⟩ := vB.cells X3.out.2.1
      go_wp2_with fail
      refine (RC.out _).mono ?_; rintro e w4 ⟨rfl, b4⟩
      have X4 := Lib.hid (X3.out.after b4)
      clear X3 b4 c0 c1 c2 c3 c4 c5 c6
      go_upto_region 10 with (refine st_storeV rfl _ _ rfl (g := w.heap.size) (o := 77 + q * 8) (v := vZ) rfl rfl (st_there X4.out.1 (by have := hq2.out; omega)) ?_)
      have X5 : Hid (StTrio (x.slot q ⟨vZ, pk p r 0⟩) v w (w4.setCells w.heap.size (77 + q * 8) (vL vZ))) := Lib.hid (by rw [pk_zero, hp.out]; exact X4.out.setv hq2.out vZ)
      clear X4
      generalize w4.setCells w.heap.size (77 + q * 8) (vL vZ) = w5 at *
      go_wp2_with fail
      go_loopw [11] (fun iv wr => ∃ a : Nat, iv = .int .i64 a ∧ o ≤ a ∧ a ≤ o + n ∧ Hid (StTrio (x.slot q ⟨vZ, pk p r (a - o)⟩) v w wr)) (fun iv wr => o + n - (intOf iv).toNat)
      case atStart => exact ⟨o, rfl, by omega, by omega, Lib.hid (by rw [Nat.sub_self]; exact X5.out)⟩
      case round =>
        obtain ⟨a, rfl, ha1, ha2, V⟩ := hrel
        have a0 : (0 : Int) ≤ (a : Int) := by omega
        by_cases hlt : (a : Int) < (o : Int) + (n : Int)
        · obtain ⟨j, hj⟩ : ∃ j : Nat, j = a - o := ⟨_, rfl⟩
          obtain ⟨t, ht⟩ : ∃ t : Nat, t = r + j := ⟨_, rfl⟩
          have hjn : Hid (j < n ∧ a = o + j ∧ t < 8 ∧ a - o = j ∧ a + 1 - o = j + 1) := Lib.hid (by have := hrn.out; omega)
          have hab : (a : Int) < 512 := by have := hrn.out; omega
          have PJ := Lib.hid (PT.out j a (by have := hrn.out; omega))
          have kat : pAt (x.slot q ⟨vZ, pk p r j⟩) a = pAll (pk p r j) (oneB t) := by
            have h1 : a / 8 = q := by have := hrn.out; have := hqn.out; have := hr.out; have := hjn.out; omega
            have h2 : ((a : Int) % 8).toNat = t := by have := hrn.out; have := hr.out; have := hjn.out; omega
            unfold pAt pBits oneB
            rw [h1, h2, St.slot_at]
            rfl
          rw [kat] at PJ
          rw [hjn.out.2.2.2.1] at V
          have stp : Hid (pk p r (j + 1) = pk p r j ||| oneB t) := Lib.hid (by rw [ht]; exact pk_step p (by have := hjn.out; omega))
          have htm : (a : Int).tmod 8 = (t : Int) := by rw [Int.tmod_eq_emod_of_nonneg a0]; have := hrn.out; have := hr.out; have := hjn.out; omega
          have XE := V
          have xat : Hid (((x.slot q ⟨vZ, pk p r j⟩).s q).p = pk p r j) := Lib.hid (by rw [St.slot_at])
          have t8 := hjn.out.2.2.1
          replace hj := Lib.hid hj
          replace ht := Lib.hid ht
          clear V PT kat
          go_wp2_with (first | (refine st_load rfl _ rfl rfl XE.out.1 ?_) | fail)
          refine (PJ.out _).mono ?_; rintro e w7 ⟨rfl, b7⟩
          replace XE := Lib.hid (XE.out.after b7)
          clear b7 PJ
          cases hv1 : pAll (pk p r j) (oneB t)
          · have adn := one_new (pk p r j) ⟨t, t8⟩ hv1
            dsimp only at adn
            have s7 := (slot_cells XE.out.1 hq2.out).2.2.2.2.2.2.2
            rw [xat.out] at s7
            have eF : Hid ((x.slot q ⟨vZ, pk p r j⟩).slot q ⟨((x.slot q ⟨vZ, pk p r j⟩).s q).v, pk p r (j + 1)⟩ = x.slot q ⟨vZ, pk p r (j + 1)⟩) := Lib.hid (by rw [St.slot_slot, St.slot_at])
            rw [← stp.out] at adn
            generalize pk p r j = P0 at *
            generalize hP1 : pk p r (j + 1) = P1 at *
            replace hP1 := Lib.hid hP1
            clear stp hv1
            have tc : t = 0 ∨ t = 1 ∨ t = 2 ∨ t = 3 ∨ t = 4 ∨ t = 5 ∨ t = 6 ∨ t = 7 := by omega
            clear t8
            rcases tc with rfl | rfl | rfl | rfl | rfl | rfl | rfl | rfl
            · have hadd : ((P0.toNat : Int) + 1) % 256 = (P1.toNat : Int) := by omega
              clear adn
              go_wp2_with fail
              go_still_tail 15, (by kernel_rfl)
              change wpList _ _ _ _ _ w7.drew
              replace XE := Lib.hid (XE.out.after (Below.drew (Below.refl _ _)))
              clear s7
              generalize w7.drew = w8 at *
              have s7 := (slot_cells XE.out.1 hq2.out).2.2.2.2.2.2.2
              rw [xat.out] at s7
              have z7 := st_free XE.out.1 (77 + q * 8 + 7)
              have XF := Lib.hid (XE.out.setp hq2.out P1)
              rw [eF.out] at XF
              clear XE
              go_wp2_with fail
              go_round
              case rel => exact ⟨a + 1, by go_num, by omega, by omega, Lib.hid (by rw [hjn.out.2.2.2.2, hP1.out]; exact XF.out)⟩
              case measure => simp [intOf]; omega
            · have hadd : ((P0.toNat : Int) + 2) % 256 = (P1.toNat : Int) := by omega
              clear adn
              go_wp2_with fail
              go_still_tail 15, (by kernel_rfl)
              change wpList _ _ _ _ _ w7.drew
              replace XE := Lib.hid (XE.out.after (Below.drew (Below.refl _ _)))
              clear s7
              generalize w7.drew = w8 at *
              have s7 := (slot_cells XE.out.1 hq2.out).2.2.2.2.2.2.2
              rw [xat.out] at s7
              have z7 := st_free XE.out.1 (77 + q * 8 + 7)
              have XF := Lib.hid (XE.out.setp hq2.out P1)
              rw [eF.out] at XF
              clear XE
              go_wp2_with fail
              go_round
              case rel => exact ⟨a + 1, by go_num, by omega, by omega, Lib.hid (by rw [hjn.out.2.2.2.2, hP1.out]; exact XF.out)⟩
              case measure => simp [intOf]; omega
            · have hadd : ((P0.toNat : Int) + 4) % 256 = (P1.toNat : Int) := by omega
              clear adn
              go_wp2_with fail
              go_still_tail 15, (by kernel_rfl)
              change wpList _ _ _ _ _ w7.drew
              replace XE := Lib.hid (XE.out.after (Below.drew (Below.refl _ _)))
              clear s7
              generalize w7.drew = w8 at *
              have s7 := (slot_cells XE.out.1 hq2.out).2.2.2.2.2.2.2
              rw [xat.out] at s7
              have z7 := st_free XE.out.1 (77 + q * 8 + 7)
              have XF := Lib.hid (XE.out.setp hq2.out P1)
              rw [eF.out] at XF
              clear XE
              go_wp2_with fail
              go_round
              case rel => exact ⟨a + 1, by go_num, by omega, by omega, Lib.hid (by rw [hjn.out.2.2.2.2, hP1.out]; exact XF.out)⟩
              case measure => simp [intOf]; omega
            · have hadd : ((P0.toNat : Int) + 8) % 256 = (P1.toNat : Int) := by omega
              clear adn
              go_wp2_with fail
              go_still_tail 15, (by kernel_rfl)
              change wpList _ _ _ _ _ w7.drew
              replace XE := Lib.hid (XE.out.after (Below.drew (Below.refl _ _)))
              clear s7
              generalize w7.drew = w8 at *
              have s7 := (slot_cells XE.out.1 hq2.out).2.2.2.2.2.2.2
              rw [xat.out] at s7
              have z7 := st_free XE.out.1 (77 + q * 8 + 7)
              have XF := Lib.hid (XE.out.setp hq2.out P1)
              rw [eF.out] at XF
              clear XE
              go_wp2_with fail
              go_round
              case rel => exact ⟨a + 1, by go_num, by omega, by omega, Lib.hid (by rw [hjn.out.2.2.2.2, hP1.out]; exact XF.out)⟩
              case measure => simp [intOf]; omega
            · have hadd : ((P0.toNat : Int) + 16) % 256 = (P1.toNat : Int) := by omega
              clear adn
              go_wp2_with fail
              go_still_tail 15, (by kernel_rfl)
              change wpList _ _ _ _ _ w7.drew
              replace XE := Lib.hid (XE.out.after (Below.drew (Below.refl _ _)))
              clear s7
              generalize w7.drew = w8 at *
              have s7 := (slot_cells XE.out.1 hq2.out).2.2.2.2.2.2.2
              rw [xat.out] at s7
              have z7 := st_free XE.out.1 (77 + q * 8 + 7)
              have XF := Lib.hid (XE.out.setp hq2.out P1)
              rw [eF.out] at XF
              clear XE
              go_wp2_with fail
              go_round
              case rel => exact ⟨a + 1, by go_num, by omega, by omega, Lib.hid (by rw [hjn.out.2.2.2.2, hP1.out]; exact XF.out)⟩
              case measure => simp [intOf]; omega
            · have hadd : ((P0.toNat : Int) + 32) % 256 = (P1.toNat : Int) := by omega
              clear adn
              go_wp2_with fail
              go_still_tail 15, (by kernel_rfl)
              change wpList _ _ _ _ _ w7.drew
              replace XE := Lib.hid (XE.out.after (Below.drew (Below.refl _ _)))
              clear s7
              generalize w7.drew = w8 at *
              have s7 := (slot_cells XE.out.1 hq2.out).2.2.2.2.2.2.2
              rw [xat.out] at s7
              have z7 := st_free XE.out.1 (77 + q * 8 + 7)
              have XF := Lib.hid (XE.out.setp hq2.out P1)
              rw [eF.out] at XF
              clear XE
              go_wp2_with fail
              go_round
              case rel => exact ⟨a + 1, by go_num, by omega, by omega, Lib.hid (by rw [hjn.out.2.2.2.2, hP1.out]; exact XF.out)⟩
              case measure => simp [intOf]; omega
            · have hadd : ((P0.toNat : Int) + 64) % 256 = (P1.toNat : Int) := by omega
              clear adn
              go_wp2_with fail
              go_still_tail 15, (by kernel_rfl)
              change wpList _ _ _ _ _ w7.drew
              replace XE := Lib.hid (XE.out.after (Below.drew (Below.refl _ _)))
              clear s7
              generalize w7.drew = w8 at *
              have s7 := (slot_cells XE.out.1 hq2.out).2.2.2.2.2.2.2
              rw [xat.out] at s7
              have z7 := st_free XE.out.1 (77 + q * 8 + 7)
              have XF := Lib.hid (XE.out.setp hq2.out P1)
              rw [eF.out] at XF
              clear XE
              go_wp2_with fail
              go_round
              case rel => exact ⟨a + 1, by go_num, by omega, by omega, Lib.hid (by rw [hjn.out.2.2.2.2, hP1.out]; exact XF.out)⟩
              case measure => simp [intOf]; omega
            · have hadd : ((P0.toNat : Int) + 128) % 256 = (P1.toNat : Int) := by omega
              clear adn
              go_wp2_with fail
              go_still_tail 15, (by kernel_rfl)
              change wpList _ _ _ _ _ w7.drew
              replace XE := Lib.hid (XE.out.after (Below.drew (Below.refl _ _)))
              clear s7
              generalize w7.drew = w8 at *
              have s7 := (slot_cells XE.out.1 hq2.out).2.2.2.2.2.2.2
              rw [xat.out] at s7
              have z7 := st_free XE.out.1 (77 + q * 8 + 7)
              have XF := Lib.hid (XE.out.setp hq2.out P1)
              rw [eF.out] at XF
              clear XE
              go_wp2_with fail
              go_round
              case rel => exact ⟨a + 1, by go_num, by omega, by omega, Lib.hid (by rw [hjn.out.2.2.2.2, hP1.out]; exact XF.out)⟩
              case measure => simp [intOf]; omega
          · have st2 := one_set (pk p r j) ⟨t, t8⟩ hv1
            rw [← stp.out] at st2
            rw [← st2] at XE
            clear st2 stp xat hv1 t8
            go_wp2_with fail
            go_round
            case rel => exact ⟨a + 1, by go_num, by omega, by omega, Lib.hid (by rw [hjn.out.2.2.2.2]; exact XE.out)⟩
            case measure => simp [intOf]; omega
        · have hj2 : a = o + n := by omega
          have V1 := V.out
          rw [show a - o = n by omega] at V1
          rw [← hF.out] at V1
          have XF := Lib.hid (And.intro V1.1 (And.intro V1.2.2.1 V1.2.2.2))
          clear V V1 PT
          have X9 := Lib.hid (And.intro (st_row XF.out.2.1 F) (below_row XF.out.2.2 (g := w.heap.size + 2) (by omega) (stC F)))
          go_wp2_with (first | (refine st_load rfl _ rfl rfl XF.out.1 ?_) | (refine st_store rfl _ _ rfl rfl rfl XF.out.2.1 ?_) | fail)
          generalize wr.setRow (w.heap.size + 2) (stC F) = w9 at *
          exact bodyPost_ret (v := .tuple #[stV F, .int .i64 0]) (by rw [results_cell_tmp rfl]; simp [asAddr, Act.put, Result.andThen, st_result X9.out.1]) rfl ⟨rfl, X9.out.2⟩
    · have k8 : ¬ size < 8 := by rw [beq_iff_eq] at h8; omega
      rw [putV_yes h8] at key
      rw [beq_iff_eq] at h8
      subst h8
      have key2 : putX x (o : Int) 8 v = x.slot q ⟨v, 255#8⟩ := by
        rw [key]
        unfold pBits
        rw [show ((o : Int) % 8).toNat = 0 by omega, show Int.toNat 8 = 8 from rfl, whole_8]
      rw [key2]
      rw [hsz] at SZ
      clear e1 e2 hra hsz hvr hr k2 k3 key key2 hq3 ho hgo hmp h8d
      obtain ⟨F, hF⟩ : ∃ F, F = x.slot q ⟨v, 255#8⟩ := ⟨_, rfl⟩
      rw [← hF]
      replace hF := Lib.hid hF
      go_enter Try.func18, Try.ntmps18
      go_wp2_with (first | (refine st_load rfl _ rfl rfl X0.out.1 ?_) | fail)
      refine (RA.out _).mono ?_; rintro e w1 ⟨rfl, b1⟩
      have X1 := Lib.hid (X0.out.after b1)
      clear X0 b1
      go_wp2_with fail
      refine (SZ.out _).mono ?_; rintro e w2 ⟨rfl, b2⟩
      have X2 := Lib.hid (X1.out.after b2)
      clear X1 b2
      obtain ⟨c0, c1, c2, c3, c4, c5, c6⟩ := vB.cells X2.out.2.1
      go_wp2_with fail
      refine (VR.out _).mono ?_; rintro e w3 ⟨rfl, b3⟩
      have X3 := Lib.hid (X2.out.after b3)
      clear X2 b3 c0 c1 c2 c3 c4 c5 c6
      obtain ⟨c0, c1, c2, c3, c4, c5, c6⟩ := vB.cells X3.out.2.1
      go_wp2_with fail
      refine (RC.out _).mono ?_; rintro e w4 ⟨rfl, b4⟩
      have X4 := Lib.hid (X3.out.after b4)
      clear X3 b4 c0 c1 c2 c3 c4 c5 c6
      obtain ⟨c0, c1, c2, c3, c4, c5, c6⟩ := vB.cells X4.out.2.1
      go_upto_region 8 with (refine st_storeS rfl _ _ rfl (g := w.heap.size) (o := 77 + q * 8) (v := ⟨v, 255#8⟩) rfl rfl (st_there X4.out.1 (by have := hq2.out; omega)) ?_)
      have XF : Hid (stB w.heap.size F _ ∧ stB (w.heap.size + 2) stZ _ ∧ Below w.heap.size w _) := Lib.hid (by rw [hF.out]; exact X4.out.sets (y := ⟨v, 255#8⟩) hq2.out)
      clear X4
      generalize w4.setCells w.heap.size (77 + q * 8) (slL ⟨v, 255#8⟩) = w5 at *
      have X9 := Lib.hid (And.intro (st_row XF.out.2.1 F) (below_row XF.out.2.2 (g := w.heap.size + 2) (by omega) (stC F)))
      go_wp2_with (first | (refine st_load rfl _ rfl rfl XF.out.1 ?_) | (refine st_store rfl _ _ rfl rfl rfl XF.out.2.1 ?_) | fail)
      generalize w5.setRow (w.heap.size + 2) (stC F) = w9 at *
      exact bodyPost_ret (v := .tuple #[stV F, .int .i64 0]) (by rw [results_cell_tmp rfl]; simp [asAddr, Act.put, Result.andThen, st_result X9.out.1]) rfl ⟨rfl, X9.out.2⟩
  · obtain ⟨e1, e2⟩ := putE_err (x := x) (off := off) (size := size) (v := v) hgo hr
    rw [e1, e2]
    rw [hsz] at SZ
    generalize rch off size = E at *
    have hE : (E != 0) = true := by simpa using hr
    clear e1 e2 hra hsz hvr hr hgo hmp
    rcases h8d with ⟨k8, h1'⟩ | k8
    · skip
      go_enter Try.func18, Try.ntmps18
      go_wp2_with (first | (refine st_load rfl _ rfl rfl X0.out.1 ?_) | fail)
      refine (RA.out _).mono ?_; rintro e w1 ⟨rfl, b1⟩
      have X1 := Lib.hid (X0.out.after b1)
      clear X0 b1
      go_wp2_with fail
      refine (SZ.out _).mono ?_; rintro e w2 ⟨rfl, b2⟩
      have X2 := Lib.hid (X1.out.after b2)
      clear X1 b2
      obtain ⟨c0, c1, c2, c3, c4, c5, c6⟩ := vB.cells X2.out.2.1
      go_wp2_with fail
      refine (VR.out _).mono ?_; rintro e w3 ⟨rfl, b3⟩
      have X3 := Lib.hid (X2.out.after b3)
      clear X2 b3 c0 c1 c2 c3 c4 c5 c6
      obtain ⟨c0, c1, c2, c3, c4, c5, c6⟩ := vB.cells X3.out.2.1
      go_wp2_with fail
      refine (RC.out _).mono ?_; rintro e w4 ⟨rfl, b4⟩
      have X4 := Lib.hid (X3.out.after b4)
      clear X3 b4 c0 c1 c2 c3 c4 c5 c6
      have X9 := Lib.hid X4.out.zero
      go_wp2_with (first | (refine st_storeZ rfl _ _ rfl rfl rfl X4.out.2.2.1 ?_) | fail)
      generalize w4.setRow (w.heap.size + 2) (stC stZ) = w9 at *
      exact bodyPost_ret (v := .tuple #[stV stZ, .int .i64 E]) (by rw [results_cell_tmp rfl]; simp [asAddr, Act.put, Result.andThen, st_result X9.out.1]) rfl ⟨rfl, X9.out.2⟩
    · skip
      go_enter Try.func18, Try.ntmps18
      go_wp2_with (first | (refine st_load rfl _ rfl rfl X0.out.1 ?_) | fail)
      refine (RA.out _).mono ?_; rintro e w1 ⟨rfl, b1⟩
      have X1 := Lib.hid (X0.out.after b1)
      clear X0 b1
      go_wp2_with fail
      refine (SZ.out _).mono ?_; rintro e w2 ⟨rfl, b2⟩
      have X2 := Lib.hid (X1.out.after b2)
      clear X1 b2
      obtain ⟨c0, c1, c2, c3, c4, c5, c6⟩ := vB.cells X2.out.2.1
      go_wp2_with fail
      refine (VR.out _).mono ?_; rintro e w3 ⟨rfl, b3⟩
      have X3 := Lib.hid (X2.out.after b3)
      clear X2 b3 c0 c1 c2 c3 c4 c5 c6
      obtain ⟨c0, c1, c2, c3, c4, c5, c6⟩ := vB.cells X3.out.2.1
      go_wp2_with fail
      refine (RC.out _).mono ?_; rintro e w4 ⟨rfl, b4⟩
      have X4 := Lib.hid (X3.out.after b4)
      clear X3 b4 c0 c1 c2 c3 c4 c5 c6
      have X9 := Lib.hid X4.out.zero
      go_wp2_with (first | (refine st_storeZ rfl _ _ rfl rfl rfl X4.out.2.2.1 ?_) | fail)
      generalize w4.setRow (w.heap.size + 2) (stC stZ) = w9 at *
      exact bodyPost_ret (v := .tuple #[stV stZ, .int .i64 E]) (by rw [results_cell_tmp rfl]; simp [asAddr, Act.put, Result.andThen, st_result X9.out.1]) rfl ⟨rfl, X9.out.2⟩

end Go.Proofs.Ytdgckjkdimnpoaa

namespace Go.Proofs.Ytdgckjkdimnpoaa
open Go Go.RowKit
set_option maxRecDepth 100000
set_option linter.unusedVariables false
set_option linter.unusedSimpArgs false

def v7 : Vl := ⟨1, fOf 7#64, 0, 0⟩
theorem stvZ_in : vIn vZ := ⟨by decide, fOf_in 0#64, by decide, by decide⟩
theorem v7_in : vIn v7 := ⟨by unfold v7; dsimp only; omega, fOf_in _, by unfold v7; dsimp only; omega, by unfold v7; dsimp only; omega⟩
theorem stZ_in : stIn stZ := ⟨fun _ => stvZ_in, fun _ => stvZ_in⟩
theorem reg_in {x : St} (hx : stIn x) (i : Nat) {v : Vl} (hv : vIn v) : stIn (x.reg i v) := ⟨fun k => by
  show vIn (if k = i then v else x.r k)
  split
  · exact hv
  · exact hx.1 k, hx.2⟩
theorem vK_in (k o : Int) (hk : 0 ≤ k ∧ k ≤ 255) (h : -9223372036854775808 ≤ o ∧ o ≤ 9223372036854775807) : vIn ⟨k, fZ, 0, o⟩ := ⟨hk, fOf_in 0#64, by dsimp only; omega, h⟩
theorem stF_in : stIn stF := reg_in (reg_in stZ_in 1 (vK_in 2 0 (by omega) (by omega))) 10 (vK_in 3 512 (by omega) (by omega))
theorem vR_in {v : Vl} (h : vR v = true) (hv : vIn v) : vIn v := hv
theorem putV_in {size : Int} {v : Vl} (hv : vIn v) : vIn (putV size v) := by
  unfold putV
  split
  · exact hv
  · exact stvZ_in
theorem putX_in {x : St} (hx : stIn x) (off size : Int) {v : Vl} (hv : vIn v) : stIn (putX x off size v) := stIn_slot hx _ (y := putS (x.s (off / 8).toNat) off size v) (putV_in (size := size) hv)
theorem putY_in {x : St} (hx : stIn x) (off size : Int) {v : Vl} (hv : vIn v) : stIn (putY x off size v) := by
  unfold putY
  split
  · exact putX_in hx off size hv
  · exact stZ_in
theorem setX_in {x : St} (hx : stIn x) (i : Int) {v : Vl} (hv : vIn v) : stIn (setX x i v) := by
  unfold setX
  split
  · exact reg_in hx _ hv
  · exact stZ_in
theorem ex_e : getE stF 0 8 = 81 := by decide +kernel
theorem ex_f : putE stF 4 4 v7 = 0 := by decide +kernel
theorem ex_g : getE (putY stF 4 4 v7) 4 2 = 0 := by decide +kernel
theorem ex_k : (getY (putY stF 4 4 v7) 4 2).k = 1 := by decide +kernel
theorem ex_r : (getY (putY stF 4 4 v7) 4 2).n.2 = (0, 65535) := by decide +kernel
set_option maxHeartbeats 8000000 in
theorem l13_shown (w : World) : Calls Try.prog 10 #[] w (Gives (.bool true) w) := by
  have FI := Lib.hid sp_first
  have G1 := Lib.hid fun w => sp_Get stF 0 8 w stF_in (by omega)
  have PU := Lib.hid fun w => sp_Put stF 4 4 v7 w stF_in v7_in (by omega)
  have G2 := Lib.hid fun w => sp_Get (putY stF 4 4 v7) 4 2 w (putY_in stF_in 4 4 v7_in) (by omega)
  have OF : Hid (∀ w, Calls Try.prog 27 #[.int .u64 7] w (Gives (fV (fOf 7#64)) w)) := Lib.hid fun w => rf_of 7#64 w
  rw [ex_e] at G1
  rw [ex_f] at PU
  rw [ex_g] at G2
  have hk := ex_k
  have hr := ex_r
  have e7 : Hid (v7 = ⟨1, fOf 7#64, 0, 0⟩) := Lib.hid rfl
  generalize getY stF 0 8 = V1 at *
  generalize getY (putY stF 4 4 v7) 4 2 = V2 at *
  generalize putY stF 4 4 v7 = S1 at *
  rw [e7.out] at PU
  generalize fOf 7#64 = f7 at *
  generalize stF = F at *
  have r1 : Hid (V2.n.2.1 = 0) := Lib.hid (by rw [hr])
  have r2 : Hid (V2.n.2.2 = 65535) := Lib.hid (by rw [hr])
  replace hk := Lib.hid hk
  clear hr e7
  go_enter Try.func10, Try.ntmps10
  go_wp2_with fail
  refine (FI.out _).mono ?_; rintro e w1 ⟨rfl, b1⟩
  go_wp2_with fail
  refine (G1.out _).mono ?_; rintro e w2 ⟨rfl, b2⟩
  have B2 := Lib.hid (below_alloc (below_next' b1 b2) (.cells (vCells V1) 30))
  clear b1 b2 G1
  go_upto_region 2 with fail
  generalize w2.alloc (.cells (vCells V1) 30) = w3 at *
  generalize w2.heap.size = g1 at *
  go_wp2_with fail
  refine (FI.out _).mono ?_; rintro e w4 ⟨rfl, b4⟩
  have B4 := Lib.hid (below_next' B2.out b4)
  clear b4 B2 FI
  go_wp2_with fail
  refine (OF.out _).mono ?_; rintro e w5 ⟨rfl, b5⟩
  have B5 := Lib.hid (below_next' B4.out b5)
  clear b5 B4 OF
  go_wp2_with fail
  refine (PU.out _).mono ?_; rintro e w6 ⟨rfl, b6⟩
  have B6 := Lib.hid (below_next' B5.out b6)
  clear b6 B5 PU
  have X6 := Lib.hid (stB.newz w6 rfl)
  have hl := Lib.hid B6.out.size
  have B7 := Lib.hid (below_alloc B6.out (.cells Try.zeroCells36 36))
  go_upto_region 3 with (refine st_store rfl _ _ rfl rfl rfl X6.out ?_)
  have X7 := Lib.hid (st_row X6.out S1)
  have B8 := Lib.hid (below_row B7.out (g := w6.heap.size) hl.out (stC S1))
  clear X6 B6 B7 hl
  generalize (w6.alloc (.cells Try.zeroCells36 36)).setRow w6.heap.size (stC S1) = w7 at *
  generalize w6.heap.size = gs at *
  go_wp2_with (first | (refine st_load rfl _ rfl rfl X7.out ?_) | fail)
  refine (G2.out _).mono ?_; rintro e w8 ⟨rfl, b8⟩
  have B9 := Lib.hid (below_alloc (below_next' B8.out b8) (.cells (vCells V2) 30))
  have Z9 := Lib.hid (vB.new w8 V2 rfl)
  clear X7 B8 b8 G2
  go_upto_region 4 with fail
  generalize w8.alloc (.cells (vCells V2) 30) = w9 at *
  generalize w8.heap.size = gv at *
  obtain ⟨c0, c1, c2, c3, c4, c5, c6⟩ := vB.cells Z9.out
  rw [hk.out] at c0
  rw [r1.out] at c3
  rw [r2.out] at c4
  clear Z9
  go_wp2_with fail
  go_ret
  exact ⟨rfl, B9.out⟩

end Go.Proofs.Ytdgckjkdimnpoaa

namespace Go.Proofs.Ytdgckjkdimnpoaa
open Go.ChangeShapes Go.WideShapes Go.ChangeAt Go.RowKit

section
variable {H : Type} {enc : TypeId × Value → H}

/-- All arguments read behind the call as they did, if below the heap's old size nothing has turned. -/
theorem below_trodAll {P : Program} (hl : laidOutB P = true) {W W' : World} (hb : Below W.heap.size W W') :
    ∀ (ts : List TypeId) (vs : List Value) (ds : List (DataW H)) (ps : List MemPlace),
      (ts.all fun t => P.readableRec t && decide (t < P.types.size)) = true →
      DataW.TrodAll enc P W 0 (fun _ => true) true ts vs ds ps →
      DataW.TrodAll enc P W' 0 (fun b => decide (b < W.heap.size)) true ts vs ds ps := by
  intro ts
  induction ts with
  | nil =>
    intro vs ds ps _ h
    cases vs with
    | nil =>
      cases ds with
      | nil => simpa [DataW.TrodAll] using h
      | cons d ds => simp [DataW.TrodAll] at h
    | cons v vs => simp [DataW.TrodAll] at h
  | cons t ts ih =>
    intro vs ds ps hr h
    simp only [List.all_cons, Bool.and_eq_true, decide_eq_true_eq] at hr
    obtain ⟨v, vs', d, ds', p, q, rfl, rfl, rfl, h1, h2⟩ := trodAll_cons h
    have hlt : ∀ x ∈ p, x.block < W.heap.size := by
      obtain ⟨m, hm⟩ := h1
      exact DataW.trod_lt m _ _ _ hm
    exact trodAll_cons_mk (Below.trod hl hr.1.1 hr.1.2 h1 hb hlt) (ih _ _ _ hr.2 h2)

theorem trodAll_length {P : Program} {w : World} {base : Nat} {spare : Nat → Bool} {held : Bool} : ∀ (ts : List TypeId) (vs : List Value) (ds : List (DataW H)) (ps : List MemPlace),
    DataW.TrodAll enc P w base spare held ts vs ds ps → ds.length = ts.length := by
  intro ts
  induction ts with
  | nil =>
    intro vs ds ps h
    cases vs with
    | nil =>
      cases ds with
      | nil => rfl
      | cons d ds => simp [DataW.TrodAll] at h
    | cons v vs => simp [DataW.TrodAll] at h
  | cons t ts ih =>
    intro vs ds ps h
    obtain ⟨v, vs', d, ds', p, q, rfl, rfl, rfl, _, h2⟩ := trodAll_cons h
    simp [ih _ _ _ h2]

/-- The row's step, for a law of whatever number of arguments. -/
theorem law_lifted {C : Checked} {os : Os} {f : FuncId} {fn : Func} {s : ChangeSpec} {conds : List PathCond} {b : TypeId}
    (own : ownKnob C.prog.godebug = none) (started : os.Started) (noInit : C.prog.inits.idxOf? f = none) (hfn : C.prog.funcs[f]? = some fn)
    (witness : ∃ (w : World) (tape : Tape) (i : Input), w.os = os ∧ (w.forCall tape i).Shaped C.prog ∧ i.vars = [] ∧ Input.okWide C.prog (w.forCall tape i) .any w.heap.size f i ∧
      s.pre6 enc C.prog fn conds false (w.forCall tape i).memory i.args ∧ ({} : Assume).holds C.prog (lone (Frame.enter C.prog f i.args .normal) [] (w.forCall tape i)))
    (hl : laidOutB C.prog = true) (hvars : s.vars = []) (hres : fn.resultTypes = #[b]) (hb : C.prog.underlying b = some .bool)
    (hread : (fn.params.toList.all fun t => C.prog.readableRec t && decide (t < C.prog.types.size)) = true)
    (hspec : ∀ ds : List (DataW H), ds.length = fn.params.size → s.fn H ds = { results := [.lit (.bool true)], args := ds, vars := [] })
    (walk : ∀ (W : World) (base : Nat) (args : Array Value) (ds : List (DataW H)) (p : List MemPlace),
      (∀ (j : Nat) t v, fn.params[j]? = some t → args[j]? = some v → Value.okWide C.prog W .any base t v) →
      DataW.TrodAll enc C.prog W 0 (fun _ => true) true fn.params.toList args.toList ds p →
      Calls C.prog f args W fun e W' => e = .returned (.bool true) ∧ Below W.heap.size W W') :
    ReturnsInHanded {} C os f .any (s.pre6 enc C.prog fn conds false) (s.post enc C.prog fn false true false false) := by
  refine returnsInHanded_of_change own started noInit hfn witness ?_
  intro W base args ds gs before hval hW _ _
  have hW' := hW
  obtain ⟨p, q, hA, hV, rfl, _, _⟩ := hW
  rw [hvars] at hV
  obtain ⟨rfl, rfl⟩ := trodVars_none hV
  refine (walk W base args ds p hval hA).mono fun e W' ⟨he, bel⟩ => ?_
  have hlen : ds.length = fn.params.size := by simpa using trodAll_length _ _ _ _ hA
  have hsp := hspec ds hlen
  refine ⟨_, he, ds, [], _, [], p, [], hW', ?_, ?_, ?_, bel.frame _, fun h => by cases h⟩
  · rw [List.append_nil, hsp, hres]
    exact trodAll_mk1 (shut_bool hb _)
  · rw [List.append_nil, hsp]
    exact below_trodAll hl bel _ _ _ _ hread hA
  · rw [List.append_nil, hsp, hvars]
    rfl
end

end Go.Proofs.Ytdgckjkdimnpoaa

namespace Go.Proofs.Ytdgckjkdimnpoaa
open Go.ChangeShapes Go.WideShapes Go.RowKit
set_option linter.unusedVariables false

theorem own_none : ownKnob Try.prog.godebug = none := by kernel_rfl
theorem laid_out : laidOutB Try.prog = true := by kernel_rfl

section
variable {H : Type} {enc : TypeId × Value → H} {P : Program} {w : World} {base : Nat} {spare : Nat → Bool} {held : Bool}
theorem trodAll_five {t t' t'' t3 t4 : TypeId} {args : Array Value} {ds : List (DataW H)} {ps : List MemPlace} (h : DataW.TrodAll enc P w base spare held [t, t', t'', t3, t4] args.toList ds ps) :
    ∃ v v' v'' v3 v4 d d' d'' d3 d4 p p' p'' p3 p4, args = #[v, v', v'', v3, v4] ∧ ds = [d, d', d'', d3, d4] ∧ ps = p ++ p' ++ p'' ++ p3 ++ p4 ∧ DataW.Trod enc P w base spare held t v d p ∧ DataW.Trod enc P w base spare held t' v' d' p' ∧
      DataW.Trod enc P w base spare held t'' v'' d'' p'' ∧ DataW.Trod enc P w base spare held t3 v3 d3 p3 ∧ DataW.Trod enc P w base spare held t4 v4 d4 p4 := by
  obtain ⟨v, vs, d, ds', p, q, hargs, rfl, rfl, hd, hrest⟩ := trodAll_cons h
  obtain ⟨v', vs', d', ds'', p', q', rfl, rfl, rfl, hd', hrest'⟩ := trodAll_cons hrest
  obtain ⟨v'', vs'', d'', ds''', p'', q'', rfl, rfl, rfl, hd'', hrest''⟩ := trodAll_cons hrest'
  obtain ⟨v3, vs3, d3, ds3, p3, q3, rfl, rfl, rfl, hd3, hrest3⟩ := trodAll_cons hrest''
  obtain ⟨v4, vs4, d4, ds4, p4, q4, rfl, rfl, rfl, hd4, hrest4⟩ := trodAll_cons hrest3
  obtain ⟨rfl, rfl, rfl⟩ := trodAll_nil hrest4
  exact ⟨v, v', v'', v3, v4, d, d', d'', d3, d4, p, p', p'', p3, p4, by cases args; simp_all, rfl, by simp, hd, hd', hd'', hd3, hd4⟩
end

end Go.Proofs.Ytdgckjkdimnpoaa
