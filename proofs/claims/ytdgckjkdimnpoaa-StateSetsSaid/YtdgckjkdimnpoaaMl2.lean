/-
  Texts, one behind the other: SpanLeaf, Fact1, Ref06r, Ref04, Ref04b, Ref04m, Ref05.
  Conditions: those that each theorem states.
-/
import Derived.Test.YtdgckjkdimnpoaaMl1
import Derived.LoopTactic
import Derived.Deep.RegionWith
import Derived.StillTailTactics

namespace Go.Proofs.Ytdgckjkdimnpoaa
open Go.RowKit
set_option maxRecDepth 100000
set_option linter.unusedVariables false

/-- A span, and whether there is one. -/
abbrev sBV (s : Sp) (b : Bool) : Value := .tuple #[sV s, .bool b]
/-- A block that holds a span. -/
def sB (g : Nat) (s : Sp) (w : World) : Prop := Blk g #[.int .u64 s.1, .int .u64 s.2] 26 w
theorem sB.new (w : World) (s : Sp) {g : Nat} (hg : g = w.heap.size) : sB g s (w.alloc (.cells #[.int .u64 s.1, .int .u64 s.2] 26)) := Blk.new w _ _ hg
theorem sB.lt {g : Nat} {s : Sp} {w : World} (h : sB g s w) : g < w.heap.size := Blk.lt h
theorem sB.after {g : Nat} {s : Sp} {w w' : World} (h : sB g s w) (b : Below w.heap.size w w') : sB g s w' := Blk.after h b
theorem sB.alloc {g : Nat} {s : Sp} {w : World} (h : sB g s w) (o : Obj) : sB g s (w.alloc o) := h.after (below_alloc (Below.refl _ _) o)
theorem sB.cells {g : Nat} {s : Sp} {w : World} (h : sB g s w) : w.cell? ⟨g, 0, none⟩ = some (.int .u64 s.1) ∧ w.cell? ⟨g, 1, none⟩ = some (.int .u64 s.2) := ⟨Blk.cell h 0, Blk.cell h 1⟩
theorem sB.free {g : Nat} {s : Sp} {w : World} (h : sB g s w) : w.frozen? ⟨g, 0, none⟩ = false ∧ w.frozen? ⟨g, 1, none⟩ = false := ⟨Blk.free h 0, Blk.free h 1⟩
theorem sB.set {g : Nat} {s : Sp} {w : World} (h : sB g s w) (t : Sp) : sB g t ((w.setCell ⟨g, 0, none⟩ (.int .u64 t.1)).setCell ⟨g, 1, none⟩ (.int .u64 t.2)) :=
  Blk.set (Blk.set h 0 (.int .u64 t.1)) 1 (.int .u64 t.2)
theorem sB.other {g k o : Nat} {s : Sp} {w : World} (h : sB g s w) (v : Value) (hk : g ≠ k) : sB g s (w.setCell ⟨k, o, none⟩ v) := Blk.other h v hk

/-- The blocks of two arguments, in whatever world has come of them; and behind them a result's. -/
def SPair (a b : Sp) (w u : World) : Prop := Below w.heap.size w u ∧ sB w.heap.size a u ∧ sB (w.heap.size + 1) b u
theorem SPair.new (a b : Sp) (w : World) : SPair a b w ((w.alloc (.cells #[.int .u64 a.1, .int .u64 a.2] 26)).alloc (.cells #[.int .u64 b.1, .int .u64 b.2] 26)) :=
  ⟨below_alloc (below_alloc (Below.refl _ _) _) _, (sB.new w a rfl).alloc _, sB.new _ b (by simp)⟩
theorem SPair.after {a b : Sp} {w u u' : World} (h : SPair a b w u) (k : Below u.heap.size u u') : SPair a b w u' := ⟨below_next' h.1 k, h.2.1.after k, h.2.2.after k⟩
theorem SPair.alloc {a b : Sp} {w u : World} (h : SPair a b w u) (o : Obj) : SPair a b w (u.alloc o) := h.after (below_alloc (Below.refl _ _) o)
def STrio (a b t : Sp) (w u : World) : Prop := SPair a b w u ∧ sB (w.heap.size + 1 + 1) t u
theorem STrio.new (a b : Sp) (w : World) : STrio a b (0, 0) w (((w.alloc (.cells #[.int .u64 a.1, .int .u64 a.2] 26)).alloc (.cells #[.int .u64 b.1, .int .u64 b.2] 26)).alloc (.cells #[.int .u64 0, .int .u64 0] 26)) :=
  ⟨(SPair.new a b w).alloc _, sB.new _ (0, 0) (by simp)⟩
theorem STrio.after {a b t : Sp} {w u u' : World} (h : STrio a b t w u) (k : Below u.heap.size u u') : STrio a b t w u' := ⟨h.1.after k, h.2.after k⟩
theorem STrio.set {a b t : Sp} {w u : World} (h : STrio a b t w u) (s : Sp) : STrio a b s w ((u.setCell ⟨w.heap.size + 1 + 1, 0, none⟩ (.int .u64 s.1)).setCell ⟨w.heap.size + 1 + 1, 1, none⟩ (.int .u64 s.2)) :=
  ⟨⟨(h.1.1.setCell (by simp; omega) _).setCell (by simp; omega) _, (h.1.2.1.other _ (by omega)).other _ (by omega), (h.1.2.2.other _ (by omega)).other _ (by omega)⟩, h.2.set s⟩
theorem STrio.setA {a b t : Sp} {w u : World} (h : STrio a b t w u) (v : Int) : STrio (v, a.2) b t w (u.setCell ⟨w.heap.size, 0, none⟩ (.int .u64 v)) :=
  ⟨⟨h.1.1.setCell (by simp) _, Blk.set h.1.2.1 0 (.int .u64 v), h.1.2.2.other _ (by omega)⟩, h.2.other _ (by omega)⟩
theorem sright_says (s : Sp) (w : World) : Calls Try.prog 82 #[sV s] w (Gives (.bool (sR s)) w) := by
  go_enter Try.func82, Try.ntmps82
  go_wp2
  go_ret
  exact ⟨end_bool rfl, below_alloc (Below.refl _ _) _⟩
theorem sall_says (w : World) : Calls Try.prog 65 #[] w (Gives (sV sAll) w) := by
  go_enter Try.func65, Try.ntmps65
  go_wp2
  refine bodyPost_ret (v := sV sAll) (by simp [results, Try.results65, go_sem, sAll]) rfl ⟨rfl, ?_⟩
  exact below_alloc (Below.refl _ _) _
theorem stold_says (l h : Int) (w : World) : Calls Try.prog 83 #[.int .u64 l, .int .u64 h] w (Gives (sBV (sT l h) (sTok l h)) w) := by
  unfold sT sTok
  rcases int_lt_or h l with k | k
  · rw [if_pos k, decide_eq_false (by omega)]
    go_enter Try.func83, Try.ntmps83
    go_wp2
    exact bodyPost_ret (v := sBV (0, 0) false) (by simp [results, Try.results83, go_sem]) rfl ⟨rfl, below_alloc (Below.refl _ _) _⟩
  · rw [if_neg (by omega), decide_eq_true (by omega)]
    go_enter Try.func83, Try.ntmps83
    go_wp2
    exact bodyPost_ret (v := sBV (l, h) true) (by simp [results, Try.results83, go_sem]) rfl ⟨rfl, below_alloc (Below.refl _ _) _⟩
set_option maxHeartbeats 1000000 in
theorem smeet_says (a b : Sp) (w : World) : Calls Try.prog 76 #[sV a, sV b] w (Gives (sBV (sM a b) (sMok a b)) w) := by
  unfold sM sMok
  have hx := Lib.hid (STrio.new a b w)
  have T := Lib.hid (stold_says (max a.1 b.1) (min a.2 b.2))
  generalize sT (max a.1 b.1) (min a.2 b.2) = t at *
  generalize sTok (max a.1 b.1) (min a.2 b.2) = k at *
  have e1 : max a.1 b.1 = if a.1 < b.1 then b.1 else a.1 := by split <;> omega
  have e2 : min a.2 b.2 = if b.2 < a.2 then b.2 else a.2 := by split <;> omega
  rw [e1, e2] at T
  clear e1 e2
  rcases int_lt_or a.1 b.1 with h1 | h1
  all_goals
    rcases int_lt_or b.2 a.2 with h2 | h2
  all_goals
    first | rw [if_pos h1] at T | rw [if_neg (by omega)] at T
    first | rw [if_pos h2] at T | rw [if_neg (by omega)] at T
    go_enter Try.func76, Try.ntmps76
    go_wp2_with fail
    refine (T.out _).mono ?_; rintro e w1 ⟨rfl, b1⟩
    have x1 := hx.out.after b1
    obtain ⟨c0, c1⟩ := x1.2.cells
    obtain ⟨f0, f1⟩ := x1.2.free
    have X1 := Lib.hid (x1.set t)
    clear x1 hx b1
    go_wp2_with fail
    exact bodyPost_ret (v := sBV t k) (by simp [results, Try.results76, go_sem, c0, c1]) rfl ⟨rfl, X1.out.1.1⟩
theorem sboth_says (a b : Sp) (w : World) : Calls Try.prog 72 #[sV a, sV b] w (Gives (.bool (sRR a b)) w) := by
  have h1 := Lib.hid (sright_says a)
  have h2 := Lib.hid (sright_says b)
  have hx := Lib.hid (SPair.new a b w)
  unfold sRR
  generalize sR b = y at *
  cases ha : sR a
  · rw [ha] at h1
    clear ha
    go_enter Try.func72, Try.ntmps72
    go_wp2_with fail
    refine (h1.out _).mono ?_; rintro e w1 ⟨rfl, b1⟩
    go_wp2_with fail
    go_ret
    exact ⟨rfl, (hx.out.after b1).1⟩
  · rw [ha] at h1
    clear ha
    go_enter Try.func72, Try.ntmps72
    go_wp2_with fail
    refine (h1.out _).mono ?_; rintro e w1 ⟨rfl, b1⟩
    have x1 := hx.out.after b1
    obtain ⟨p0, p1⟩ := x1.2.2.cells
    have X1 := Lib.hid x1
    clear x1 hx b1
    go_wp2_with fail
    refine (h2.out _).mono ?_; rintro e w2 ⟨rfl, b2⟩
    go_wp2_with fail
    go_ret
    exact ⟨rfl, (X1.out.after b2).1⟩
set_option maxHeartbeats 1000000 in
theorem swithin_says (a b : Sp) (w : World) : Calls Try.prog 61 #[sV a, sV b] w (Gives (.bool (sW a b)) w) := by
  have h1 := Lib.hid (sboth_says a b)
  have hx := Lib.hid (SPair.new a b w)
  unfold sW
  cases ha : sRR a b
  · rw [ha] at h1
    clear ha
    go_enter Try.func61, Try.ntmps61
    go_wp2_with fail
    refine (h1.out _).mono ?_; rintro e w1 ⟨rfl, b1⟩
    go_wp2_with fail
    go_ret
    exact ⟨rfl, (hx.out.after b1).1⟩
  · rw [ha] at h1
    clear ha
    rcases int_lt_or a.1 b.1 with h | h
    · rw [decide_eq_false (p := b.1 ≤ a.1) (by omega)]
      go_enter Try.func61, Try.ntmps61
      go_wp2_with fail
      refine (h1.out _).mono ?_; rintro e w1 ⟨rfl, b1⟩
      have x1 := hx.out.after b1
      obtain ⟨p0, p1⟩ := x1.2.2.cells
      obtain ⟨q0, q1⟩ := x1.2.1.cells
      have X1 := Lib.hid x1
      clear x1 hx b1
      go_wp2_with fail
      go_ret
      exact ⟨rfl, X1.out.1⟩
    · rw [decide_eq_true (p := b.1 ≤ a.1) (by omega)]
      go_enter Try.func61, Try.ntmps61
      go_wp2_with fail
      refine (h1.out _).mono ?_; rintro e w1 ⟨rfl, b1⟩
      have x1 := hx.out.after b1
      obtain ⟨p0, p1⟩ := x1.2.2.cells
      obtain ⟨q0, q1⟩ := x1.2.1.cells
      have X1 := Lib.hid x1
      clear x1 hx b1
      go_wp2_with fail
      go_ret
      exact ⟨rfl, X1.out.1⟩
end Go.Proofs.Ytdgckjkdimnpoaa

namespace Go.Proofs.Ytdgckjkdimnpoaa
open Go.RowKit
set_option maxRecDepth 100000
set_option linter.unusedVariables false

/-- A range's block, and behind it what it tells. -/
def RD (s : Sp) (t : Tn) (w u : World) : Prop := Below w.heap.size w u ∧ sB w.heap.size s u ∧ Box (w.heap.size + 1) t u
theorem RD.new (s : Sp) (w : World) : RD s (0#64, 0#64) w ((w.alloc (.cells #[.int .u64 s.1, .int .u64 s.2] 26)).alloc (.cells #[.int .u64 0, .int .u64 0] 24)) :=
  ⟨below_alloc (below_alloc (Below.refl _ _) _) _, (sB.new w s rfl).alloc _, Box.new _ (0#64, 0#64) (by simp)⟩
theorem RD.set {s : Sp} {t : Tn} {w u : World} (h : RD s t w u) (x : Tn) : RD s x w ((u.setCell ⟨w.heap.size + 1, 0, none⟩ (uV x.1)).setCell ⟨w.heap.size + 1, 1, none⟩ (uV x.2)) :=
  ⟨(h.1.setCell (by simp) _).setCell (by simp) _, (h.2.1.other _ (by omega)).other _ (by omega), h.2.2.set x⟩

theorem mk_mask (k : Nat) (h : k ≤ 63) : IntKind.u64.wrap (IntKind.u64.wrap (2 ^ k) - 1) = ((mk k).toNat : Int) := by
  rw [mask_int k h]
  unfold mk
  have h1 := Nat.pow_le_pow_right (n := 2) (by decide) h
  have h2 : (2 : Nat) ^ 63 = 9223372036854775808 := by decide
  have h3 := Nat.two_pow_pos k
  rw [BitVec.toNat_ofNat, Nat.mod_eq_of_lt (by omega), Int.natCast_sub (by omega)]
  push_cast
  rfl

set_option maxHeartbeats 1000000 in
theorem fp_told_bv (L H : BitVec 64) (w : World) : Calls Try.prog 78 #[.agg #[uV L, uV H]] w (Gives (tV (rng L H)) w) := by
  have Z := Lib.hid (len64_says (L ^^^ H))
  have hx := Lib.hid (RD.new ((L.toNat : Int), (H.toNat : Int)) w)
  have hk := bl_le (L ^^^ H)
  have hr : rng L H = (L &&& ~~~mk (bl (L ^^^ H)), mk (bl (L ^^^ H))) := rfl
  rw [hr]
  clear hr
  have HX := Lib.hid (bv_xor L H)
  generalize hz : L ^^^ H = z at *
  generalize bl z = k at *
  clear hz
  obtain ⟨c0, c1⟩ := hx.out.2.1.cells
  by_cases h64 : k = 64
  · subst h64
    have ha := bv_andNot L (mk 64)
    have hm : IntKind.u64.wrap (IntKind.u64.wrap 18446744073709551616 - 1) = ((mk 64).toNat : Int) := by rw [IntKind.wrap_u64, IntKind.wrap_u64]; decide
    generalize L &&& ~~~mk 64 = v at *
    generalize mk 64 = m at *
    have HM := Lib.hid hm
    have HA := Lib.hid ha
    clear hm ha
    go_enter Try.func78, Try.ntmps78
    go_wp2_with fail
    rw [HX.out]
    refine (Z.out _).mono ?_; rintro e w1 ⟨rfl, rfl⟩
    go_wp2_with fail
    rw [HM.out, HA.out]
    exact bodyPost_ret (v := tV (v, m)) (by simp [results, Try.results78, go_sem]) rfl ⟨rfl, below_alloc (below_alloc (Below.refl _ _) _) _⟩
  · have hm := mk_mask k (by omega)
    have ha := bv_andNot L (mk k)
    generalize L &&& ~~~mk k = v at *
    generalize mk k = m at *
    have hk' : k ≤ 63 := by omega
    have HM := Lib.hid hm
    have HA := Lib.hid ha
    clear hm ha h64
    go_enter Try.func78, Try.ntmps78
    go_wp2_with fail
    rw [HX.out]
    refine (Z.out _).mono ?_; rintro e w1 ⟨rfl, rfl⟩
    go_wp2_with fail
    rw [HM.out, HA.out]
    exact bodyPost_ret (v := tV (v, m)) (by simp [results, Try.results78, go_sem]) rfl ⟨rfl, below_alloc (below_alloc (Below.refl _ _) _) _⟩

theorem fp_told (s : Sp) (w : World) (hs : sIn s) : Calls Try.prog 78 #[sV s] w (Gives (tV (rS s)) w) := by
  have e1 := ofInt_nat hs.1
  have e2 := ofInt_nat hs.2
  have h := fp_told_bv (BitVec.ofInt 64 s.1) (BitVec.ofInt 64 s.2) w
  have e3 : (.agg #[uV (BitVec.ofInt 64 s.1), uV (BitVec.ofInt 64 s.2)] : Value) = sV s := by
    show (.agg #[.int .u64 ((BitVec.ofInt 64 s.1).toNat : Int), .int .u64 ((BitVec.ofInt 64 s.2).toNat : Int)] : Value) = _
    rw [e1, e2]
  rw [e3] at h
  exact h

end Go.Proofs.Ytdgckjkdimnpoaa

namespace Go.Proofs.Ytdgckjkdimnpoaa
open Go.RowKit
set_option maxRecDepth 100000
set_option linter.unusedVariables false

/-- One place further down. -/
theorem shr_nat (x : BitVec 64) (m : Nat) : (x >>> m).toNat = (x >>> (m + 1)).toNat * 2 + x.toNat / 2 ^ m % 2 := by
  rw [BitVec.toNat_ushiftRight, BitVec.toNat_ushiftRight, Nat.shiftRight_eq_div_pow, Nat.shiftRight_eq_div_pow, Nat.pow_succ, ← Nat.div_div_eq_div_mul]
  omega
theorem bit_mod (x : BitVec 64) (m : Nat) : x.toNat / 2 ^ m % 2 = if x.getLsbD m then 1 else 0 := by
  have h : x.getLsbD m = decide (x.toNat / 2 ^ m % 2 = 1) := by
    show x.toNat.testBit m = _
    rw [Nat.testBit_eq_decide_div_mod_eq]
  rw [h]
  have h2 := Nat.mod_two_eq_zero_or_one (x.toNat / 2 ^ m)
  rcases h2 with h2 | h2 <;> simp [h2]
theorem shr_step (x : BitVec 64) (m : Nat) : ((x >>> m).toNat : Int) = ((x >>> (m + 1)).toNat : Int) * 2 + (if x.getLsbD m then 1 else 0) := by
  rw [shr_nat, bit_mod]
  split <;> push_cast <;> rfl
theorem shr_all (x : BitVec 64) : x >>> 64 = 0#64 := by
  apply BitVec.eq_of_toNat_eq
  rw [BitVec.toNat_ushiftRight, Nat.shiftRight_eq_div_pow, Nat.div_eq_of_lt x.isLt]
  rfl
theorem bit_num (x : BitVec 64) (m : Nat) : (x.toNat : Int) / 2 ^ m % 2 = if x.getLsbD m then 1 else 0 := by
  have e : (x.toNat : Int) / 2 ^ m % 2 = ((x.toNat / 2 ^ m % 2 : Nat) : Int) := by push_cast; rfl
  rw [e, bit_mod]
  split <;> rfl

/-- A range's block, a result's, and one of what it tells so far. -/
def RT (s : Sp) (t : Tn) (w u : World) : Prop := Below w.heap.size w u ∧ sB w.heap.size s u ∧ Box (w.heap.size + 1) (0#64, 0#64) u ∧ Box (w.heap.size + 1 + 1) t u
theorem RT.new (s : Sp) (w : World) : RT s (0#64, 0#64) w (((w.alloc (.cells #[.int .u64 s.1, .int .u64 s.2] 26)).alloc (.cells #[.int .u64 0, .int .u64 0] 24)).alloc (.cells #[.int .u64 0, .int .u64 0] 24)) :=
  ⟨below_alloc (below_alloc (below_alloc (Below.refl _ _) _) _) _, ((sB.new w s rfl).alloc _).alloc _, (Box.new _ (0#64, 0#64) (by simp)).alloc _, Box.new _ (0#64, 0#64) (by simp)⟩
theorem RT.mask {s : Sp} {t : Tn} {w u : World} (h : RT s t w u) (x y : BitVec 64) (z : Value) :
    RT s (x, y) w (((u.setCell ⟨w.heap.size + 1 + 1, 0, none⟩ (uV x)).setCell ⟨w.heap.size + 1 + 1, 1, none⟩ z).setCell ⟨w.heap.size + 1 + 1, 1, none⟩ (uV y)) :=
  ⟨((h.1.setCell (by simp; omega) _).setCell (by simp; omega) _).setCell (by simp; omega) _, ((h.2.1.other _ (by omega)).other _ (by omega)).other _ (by omega), ((h.2.2.1.other _ (by omega)).other _ (by omega)).other _ (by omega),
    Blk.set (Blk.set (Blk.set (show Blk _ _ _ _ from h.2.2.2) 0 (uV x)) 1 z) 1 (uV y)⟩
theorem RT.value {s : Sp} {t : Tn} {w u : World} (h : RT s t w u) (x y : BitVec 64) (z : Value) :
    RT s (x, y) w (((u.setCell ⟨w.heap.size + 1 + 1, 0, none⟩ z).setCell ⟨w.heap.size + 1 + 1, 1, none⟩ (uV y)).setCell ⟨w.heap.size + 1 + 1, 0, none⟩ (uV x)) :=
  ⟨((h.1.setCell (by simp; omega) _).setCell (by simp; omega) _).setCell (by simp; omega) _, ((h.2.1.other _ (by omega)).other _ (by omega)).other _ (by omega), ((h.2.2.1.other _ (by omega)).other _ (by omega)).other _ (by omega),
    Blk.set (Blk.set (Blk.set (show Blk _ _ _ _ from h.2.2.2) 0 z) 1 (uV y)) 0 (uV x)⟩

set_option maxHeartbeats 4000000 in
theorem rf_ranged_bv (L H : BitVec 64) (w : World) : Calls Try.prog 81 #[.agg #[uV L, uV H]] w (Gives (tV (rng L H)) w) := by
  have hx := Lib.hid (RT.new ((L.toNat : Int), (H.toNat : Int)) w)
  have hb := Lib.hid fun (i : Nat) (hi : i < 64) => rng_bit L H hi
  have hz : ((rng L H).1 >>> 64, (rng L H).2 >>> 64) = (0#64, 0#64) := by rw [shr_all, shr_all]
  have hK := bl_le (L ^^^ H)
  have hKb := Lib.hid fun (m : Nat) (h : ¬ m + 1 < bl (L ^^^ H)) => (hi_iff L H (m + 1)).mp ((bl_iff (L ^^^ H) (m + 1)).mp (by omega))
  generalize hV : (rng L H).1 = V at *
  generalize hM : (rng L H).2 = M at *
  have hT : rng L H = (V, M) := Prod.ext hV hM
  rw [hT]
  clear hT hV hM
  go_enter Try.func81, Try.ntmps81
  go_wp2_with fail
  go_loopw [4, 5] (fun u i wr => ∃ (j : Nat) (k : Int) (q : Bool), j ≤ 64 ∧ k + 1 = j ∧ q = decide (j < bl (L ^^^ H)) ∧ u = .bool q ∧ i = .int .i64 k ∧ Hid (RT ((L.toNat : Int), (H.toNat : Int)) (V >>> j, M >>> j) w wr)) (fun _ i _ => ((intOf i) + 1).toNat)
  case atStart => exact ⟨64, 63, false, by omega, by omega, (decide_eq_false (by omega)).symm, rfl, rfl, Lib.hid (by rw [hz]; exact hx.out)⟩
  case round =>
    obtain ⟨j, k, q, hj, hk, hq, rfl, rfl, X⟩ := hrel
    obtain ⟨c0, c1⟩ := X.out.2.1.cells
    obtain ⟨t0, t1⟩ := X.out.2.2.2.cells
    obtain ⟨f0, f1⟩ := X.out.2.2.2.free
    by_cases hlt : 0 ≤ k
    · obtain ⟨m, rfl⟩ := Int.eq_ofNat_of_zero_le hlt
      obtain rfl : j = m + 1 := by omega
      have hm : m ≤ 63 := by omega
      have eV := shr_step V m
      have eM := shr_step M m
      obtain ⟨bV, bM⟩ := hb.out m (by omega)
      rw [bV] at eV
      rw [bM] at eM
      have eL := bit_num L m
      have eH := bit_num H m
      have tL : ((L.toNat : Int) / 2 ^ m).tmod 2 = (L.toNat : Int) / 2 ^ m % 2 := Int.tmod_eq_emod_of_nonneg (Int.ediv_nonneg (by omega) (by have := two_pow_pos m; omega))
      have tH : ((H.toNat : Int) / 2 ^ m).tmod 2 = (H.toNat : Int) / 2 ^ m % 2 := Int.tmod_eq_emod_of_nonneg (Int.ediv_nonneg (by omega) (by have := two_pow_pos m; omega))
      have lV := bv_rng (V >>> m)
      have lM := bv_rng (M >>> m)
      have XM := Lib.hid (X.out.mask (V >>> m) (M >>> m) (.int .u64 (((M >>> (m + 1)).toNat : Int) * 2)))
      have XV := Lib.hid (X.out.value (V >>> m) (M >>> m) (.int .u64 (((V >>> (m + 1)).toNat : Int) * 2)))
      generalize V >>> (m + 1) = V1 at *
      generalize hv0 : V >>> m = V0 at *
      generalize M >>> (m + 1) = M1 at *
      generalize hm0 : M >>> m = M0 at *
      have EV := Lib.hid hv0
      have EM := Lib.hid hm0
      clear hv0 hm0
      by_cases h1 : m + 1 < bl (L ^^^ H)
      · rw [decide_eq_true (p := m < bl (L ^^^ H)) (by omega)] at eV eM
        rw [decide_eq_true h1] at hq
        subst hq
        have d1 : (V1.toNat : Int) * 2 = (V0.toNat : Int) := by simpa using eV.symm
        have d2 : (M1.toNat : Int) * 2 + 1 = (M0.toNat : Int) := by simpa using eM.symm
        have d3 : IntKind.u64.wrap ((V1.toNat : Int) * 2) = (V0.toNat : Int) := by rw [d1, IntKind.wrap_u64]; omega
        generalize (L.toNat : Int) / 2 ^ m % 2 = la at *
        generalize (H.toNat : Int) / 2 ^ m % 2 = ha at *
        clear hb hKb hx hz eV eM bV bM eL eH d1 XV
        go_wp2_with fail
        go_round
        case rel => exact ⟨m, (m : Int) - 1 + 1 - 1, true, by omega, by omega, (decide_eq_true (by omega)).symm, rfl, by congr 1; omega, by rw [EV.out, EM.out]; exact XM⟩
        case measure => first | (simp [intOf]; done) | (simp [intOf]; omega)
      · have hk1 := hi_bit (hKb.out m h1) (i := m + 1)
        rw [decide_eq_false h1] at hq
        subst hq
        by_cases h2 : m < bl (L ^^^ H)
        · -- the highest bit in which they are unlike
          have hne : ¬ L.getLsbD m = H.getLsbD m := by
            intro he
            have : bl (L ^^^ H) ≤ m := by
              rw [bl_iff, hi_iff]
              apply Nat.eq_of_testBit_eq
              intro i
              rw [bit_div, bit_div]
              by_cases hi : i = 0
              · subst hi; exact he
              · exact hi_bit (hKb.out m h1) (by omega)
            omega
          rw [decide_eq_true h2] at eV eM
          have d1 : (V1.toNat : Int) * 2 = (V0.toNat : Int) := by simpa using eV.symm
          have d2 : (M1.toNat : Int) * 2 + 1 = (M0.toNat : Int) := by simpa using eM.symm
          have d3 : IntKind.u64.wrap ((V1.toNat : Int) * 2) = (V0.toNat : Int) := by rw [d1, IntKind.wrap_u64]; omega
          have d4 : (((L.toNat : Int) / 2 ^ m % 2) != ((H.toNat : Int) / 2 ^ m % 2)) = true := by
            rw [eL, eH]
            revert hne
            cases L.getLsbD m <;> cases H.getLsbD m <;> simp
          generalize (L.toNat : Int) / 2 ^ m % 2 = la at *
          generalize (H.toNat : Int) / 2 ^ m % 2 = ha at *
          clear hb hKb hx hz eV eM bV bM eL eH d1 hk1 hne XV
          go_wp2_with fail
          go_round
          case rel => exact ⟨m, (m : Int) - 1 + 1 - 1, true, by omega, by omega, (decide_eq_true h2).symm, rfl, by congr 1; omega, by rw [EV.out, EM.out]; exact XM⟩
          case measure => first | (simp [intOf]; done) | (simp [intOf]; omega)
        · have heq : L.getLsbD m = H.getLsbD m := hi_bit ((hi_iff L H m).mp ((bl_iff _ _).mp (by omega))) (Nat.le_refl m)
          rw [decide_eq_false h2] at eV eM
          have d2 : (M1.toNat : Int) * 2 = (M0.toNat : Int) := by simpa using eM.symm
          have d3 : IntKind.u64.wrap ((M1.toNat : Int) * 2) = (M0.toNat : Int) := by rw [d2, IntKind.wrap_u64]; omega
          have d1 : (V1.toNat : Int) * 2 + (L.toNat : Int) / 2 ^ m % 2 = (V0.toNat : Int) := by rw [eL, eV]; simp
          have d4 : (((L.toNat : Int) / 2 ^ m % 2) != ((H.toNat : Int) / 2 ^ m % 2)) = false := by rw [eL, eH, heq]; simp
          have d5 : 0 ≤ (L.toNat : Int) / 2 ^ m % 2 := by rw [eL]; split <;> omega
          generalize (L.toNat : Int) / 2 ^ m % 2 = la at *
          generalize (H.toNat : Int) / 2 ^ m % 2 = ha at *
          clear hb hKb hx hz eV eM bV bM eL eH hk1 heq d2 XM
          go_wp2_with fail
          go_round
          case rel => exact ⟨m, (m : Int) - 1 + 1 - 1, false, by omega, by omega, (decide_eq_false h2).symm, rfl, by congr 1; omega, by rw [EV.out, EM.out]; exact XV⟩
          case measure => first | (simp [intOf]; done) | (simp [intOf]; omega)
    · have hj0 : j = 0 := by omega
      subst hj0
      have hk0 : k = -1 := by omega
      subst hk0
      obtain ⟨r0, r1⟩ := X.out.2.2.1.cells
      obtain ⟨g0, g1⟩ := X.out.2.2.1.free
      have e0 : (V >>> 0, M >>> 0) = (V, M) := by simp
      rw [e0] at X
      have t0' : wr.cell? ⟨w.heap.size + 1 + 1, 0, none⟩ = some (uV V) := X.out.2.2.2.cells.1
      have t1' : wr.cell? ⟨w.heap.size + 1 + 1, 1, none⟩ = some (uV M) := X.out.2.2.2.cells.2
      have X2 := Lib.hid ((X.out.1.setCell (p := ⟨w.heap.size + 1, 0, none⟩) (by simp) (uV V)).setCell (p := ⟨w.heap.size + 1, 1, none⟩) (by simp) (uV M))
      clear t0 t1 hb hKb hx hz
      go_wp2_with fail
      exact bodyPost_ret (v := tV (V, M)) (by simp [results, Try.results81, go_sem, r0, r1]) rfl ⟨rfl, X2.out⟩

theorem rf_ranged (s : Sp) (w : World) (hs : sIn s) : Calls Try.prog 81 #[sV s] w (Gives (tV (rS s)) w) := by
  have e1 := ofInt_nat hs.1
  have e2 := ofInt_nat hs.2
  have h := rf_ranged_bv (BitVec.ofInt 64 s.1) (BitVec.ofInt 64 s.2) w
  have e3 : (.agg #[uV (BitVec.ofInt 64 s.1), uV (BitVec.ofInt 64 s.2)] : Value) = sV s := by
    show (.agg #[.int .u64 ((BitVec.ofInt 64 s.1).toNat : Int), .int .u64 ((BitVec.ofInt 64 s.2).toNat : Int)] : Value) = _
    rw [e1, e2]
  rw [e3] at h
  exact h

end Go.Proofs.Ytdgckjkdimnpoaa

namespace Go.Proofs.Ytdgckjkdimnpoaa
open Go.RowKit
set_option maxRecDepth 100000
set_option linter.unusedVariables false

theorem bit_int (n : BitVec 64) (i : Nat) : ((n.toNat : Int) / 2 ^ i % 2 == 1) = n.getLsbD i := by
  have e : (n.toNat : Int) / 2 ^ i % 2 = ((n.toNat / 2 ^ i % 2 : Nat) : Int) := by simp
  rw [e]
  show _ = n.toNat.testBit i
  rw [Nat.testBit_eq_decide_div_mod_eq]
  have h := Nat.mod_two_eq_zero_or_one (n.toNat / 2 ^ i)
  rcases h with h | h <;> simp [h]
set_option maxRecDepth 100000 in
theorem bit_says (n : BitVec 64) (i : Nat) (hi : i < 64) (w : World) : Calls Try.prog 73 #[uV n, .int .i64 i] w fun e w' => e = .returned (.bool (n.getLsbD i)) ∧ w = w' := by
  have e := bit_int n i
  have e1 : ((n.toNat : Int) / 2 ^ i).tmod 2 = (n.toNat : Int) / 2 ^ i % 2 := Int.tmod_eq_emod_of_nonneg (Int.ediv_nonneg (by omega) (by have := two_pow_pos i; omega))
  generalize n.getLsbD i = b at *
  go_enter Try.func73, Try.ntmps73
  go_wp2_with fail
  go_ret
  exact ⟨rfl, rfl⟩
theorem right_fail {t : Tn} {j : Nat} (hj : j < 64) (h1 : t.1.getLsbD j = true) (h2 : t.2.getLsbD j = true) : tR t = false := by
  rw [← Bool.not_eq_true, tR_iff]
  intro h
  have e := h j hj
  rw [h1, h2] at e
  cases e
theorem within_end {a b : Tn} (h : ∀ k, k < 64 → b.2.getLsbD k = true ∨ (a.2.getLsbD k = false ∧ a.1.getLsbD k = b.1.getLsbD k)) : tW a b = tRR a b := by
  rw [Bool.eq_iff_iff, tW_iff, tRR_iff, tR_iff b]
  constructor
  · rintro ⟨ra, e⟩
    refine ⟨ra, fun i hi => ?_⟩
    obtain ⟨e1, e2⟩ := e i hi
    have h1 := h i hi
    revert e1 e2 h1
    generalize a.1.getLsbD i = u1
    generalize a.2.getLsbD i = u2
    generalize b.1.getLsbD i = u3
    generalize b.2.getLsbD i = u4
    cases u1 <;> cases u2 <;> cases u3 <;> cases u4 <;> simp
  · rintro ⟨ra, e⟩
    refine ⟨ra, fun i hi => ?_⟩
    have e0 := (tR_iff a).mp ra i hi
    have e1 := e i hi
    have h1 := h i hi
    revert e0 e1 h1
    generalize a.1.getLsbD i = u1
    generalize a.2.getLsbD i = u2
    generalize b.1.getLsbD i = u3
    generalize b.2.getLsbD i = u4
    cases u1 <;> cases u2 <;> cases u3 <;> cases u4 <;> simp
theorem within_fail {a b : Tn} {j : Nat} (hj : j < 64) (h1 : b.2.getLsbD j = false) (h2 : a.2.getLsbD j = true ∨ a.1.getLsbD j = !b.1.getLsbD j) : tW a b = false := by
  rw [← Bool.not_eq_true, tW_iff]
  rintro ⟨_, h⟩
  obtain ⟨e1, e2⟩ := h j hj
  rw [h1] at e1 e2
  revert e1 e2 h2
  generalize a.1.getLsbD j = u1
  generalize a.2.getLsbD j = u2
  generalize b.1.getLsbD j = u3
  cases u1 <;> cases u2 <;> cases u3 <;> simp

set_option maxRecDepth 100000 in
set_option maxHeartbeats 1000000 in
theorem rright_says (t : Tn) (w : World) : Calls Try.prog 67 #[tV t] w (Gives (.bool (tR t)) w) := by
  go_enter Try.func67, Try.ntmps67
  go_wp2_with fail
  go_loopw [3] (fun i wr => ∃ j : Nat, j ≤ 64 ∧ i = .int .i64 j ∧ Hid (∀ k, k < j → (t.1.getLsbD k && t.2.getLsbD k) = false) ∧ wr = w.alloc (.cells #[uV t.1, uV t.2] 24)) (fun i _ => 64 - (intOf i).toNat)
  case atStart => exact ⟨0, by omega, rfl, fun k hk => by omega, rfl⟩
  case round =>
    obtain ⟨j, hj, rfl, hk, rfl⟩ := hrel
    by_cases hlt : (j : Int) < 64
    · have hb : (t.1.getLsbD j = false) ∨ (t.1.getLsbD j = true ∧ t.2.getLsbD j = false) ∨ (t.1.getLsbD j = true ∧ t.2.getLsbD j = true) := by
        cases t.1.getLsbD j <;> cases t.2.getLsbD j <;> simp
      rcases hb with h1 | ⟨h1, h2⟩ | ⟨h1, h2⟩
      · have HN : Hid (∀ k, k < j + 1 → (t.1.getLsbD k && t.2.getLsbD k) = false) := fun k hk2 => by
          rcases Nat.lt_or_ge k j with h | h
          · exact hk.out k h
          · rw [show k = j by omega, h1]; rfl
        have C1 := Lib.hid h1
        clear h1 hk
        go_wp2_with (go_at_call 73; refine (bit_says _ j (by omega) _).mono ?_; rintro e w' ⟨rfl, rfl⟩; rw [C1.out])
        go_round
        case rel => exact ⟨j + 1, by omega, by go_num, HN, trivial⟩
        case measure => simp [intOf]; omega
      · have HN : Hid (∀ k, k < j + 1 → (t.1.getLsbD k && t.2.getLsbD k) = false) := fun k hk2 => by
          rcases Nat.lt_or_ge k j with h | h
          · exact hk.out k h
          · rw [show k = j by omega, h1, h2]; rfl
        have C1 := Lib.hid h1
        have C2 := Lib.hid h2
        clear h1 h2 hk
        go_wp2_with (go_at_call 73; refine (bit_says _ j (by omega) _).mono ?_; rintro e w' ⟨rfl, rfl⟩; (first | rw [C1.out] | rw [C2.out]))
        go_round
        case rel => exact ⟨j + 1, by omega, by go_num, HN, trivial⟩
        case measure => simp [intOf]; omega
      · have HF := Lib.hid (right_fail (by omega) h1 h2)
        have C1 := Lib.hid h1
        have C2 := Lib.hid h2
        clear h1 h2 hk
        go_wp2_with (go_at_call 73; refine (bit_says _ j (by omega) _).mono ?_; rintro e w' ⟨rfl, rfl⟩; (first | rw [C1.out] | rw [C2.out]))
        go_ret
        exact ⟨end_bool HF.out.symm, below_alloc (Below.refl _ _) _⟩
    · have HT : Hid (tR t = true) := Lib.hid ((tR_iff t).mpr fun i hi => hk.out i (by omega))
      clear hk
      go_wp2_with fail
      go_ret
      exact ⟨end_bool HT.out.symm, below_alloc (Below.refl _ _) _⟩

end Go.Proofs.Ytdgckjkdimnpoaa

namespace Go.Proofs.Ytdgckjkdimnpoaa
open Go.RowKit
set_option maxRecDepth 100000
set_option linter.unusedVariables false

set_option maxRecDepth 100000 in
/-- A bit that is known, asked for behind draws. -/
theorem bit_to {n : BitVec 64} {i : Nat} {b : Bool} (h : n.getLsbD i = b) (hi : i < 64) (w : World) : Calls Try.prog 73 #[uV n, .int .i64 i] w fun e w' => e = .returned (.bool b) ∧ w' = w :=
  (bit_says n i hi w).mono fun e w' ⟨h1, h2⟩ => ⟨by rw [← h]; exact h1, h2.symm⟩
set_option maxRecDepth 100000 in
theorem below_draws {w u : World} (h : Below w.heap.size w u) (n : Nat) : Below w.heap.size w (u.drewN n) := below_drewN h n

set_option maxRecDepth 100000 in
theorem rboth_says (a b : Tn) (w : World) : Calls Try.prog 74 #[tV a, tV b] w (Gives (.bool (tRR a b)) w) := by
  have h1 := Lib.hid (rright_says a)
  have h2 := Lib.hid (rright_says b)
  have hx := Lib.hid (Pair.new a b w)
  unfold tRR
  cases ha : tR a
  · rw [ha] at h1
    clear ha
    generalize tR b = y at *
    go_enter Try.func74, Try.ntmps74
    go_wp2_with fail
    refine (h1.out _).mono ?_; rintro e w1 ⟨rfl, b1⟩
    go_wp2_with fail
    go_ret
    exact ⟨rfl, (hx.out.after b1).1⟩
  · rw [ha] at h1
    clear ha
    generalize tR b = y at *
    go_enter Try.func74, Try.ntmps74
    go_wp2_with fail
    refine (h1.out _).mono ?_; rintro e w1 ⟨rfl, b1⟩
    have x1 := hx.out.after b1
    obtain ⟨p0, p1, p2, p3⟩ := x1.cells
    have X1 := Lib.hid x1.1
    clear x1
    go_wp2_with fail
    refine (h2.out _).mono ?_; rintro e w2 ⟨rfl, b2⟩
    go_wp2_with fail
    go_ret
    exact ⟨rfl, below_next' X1.out b2⟩

set_option maxRecDepth 100000 in
set_option maxHeartbeats 2000000 in
theorem rwithin_says (a b : Tn) (w : World) : Calls Try.prog 62 #[tV a, tV b] w (Gives (.bool (tW a b)) w) := by
  have hx := Lib.hid (Pair.new a b w)
  go_enter Try.func62, Try.ntmps62
  go_wp2_with fail
  go_loopw [5] (fun i wr => ∃ j : Nat, j ≤ 64 ∧ i = .int .i64 j ∧ Hid (∀ k, k < j → b.2.getLsbD k = true ∨ (a.2.getLsbD k = false ∧ a.1.getLsbD k = b.1.getLsbD k)) ∧ Hid (Pair a b w wr)) (fun i _ => 64 - (intOf i).toNat)
  case atStart => exact ⟨0, by omega, rfl, fun k hk => by omega, hx⟩
  case round =>
    obtain ⟨j, hj, rfl, hk, X⟩ := hrel
    obtain ⟨p0, p1, p2, p3⟩ := X.out.cells
    by_cases hlt : (j : Int) < 64
    · have hb : (b.2.getLsbD j = true) ∨ (b.2.getLsbD j = false ∧ a.2.getLsbD j = true) ∨ (b.2.getLsbD j = false ∧ a.2.getLsbD j = false ∧ a.1.getLsbD j = b.1.getLsbD j) ∨ (b.2.getLsbD j = false ∧ a.2.getLsbD j = false ∧ a.1.getLsbD j = !b.1.getLsbD j) := by
        cases a.1.getLsbD j <;> cases b.2.getLsbD j <;> cases a.2.getLsbD j <;> cases b.1.getLsbD j <;> simp
      rcases hb with h1 | ⟨h1, h2⟩ | ⟨h1, h2, h3⟩ | ⟨h1, h2, h3⟩
      · have HN : Hid (∀ k, k < j + 1 → b.2.getLsbD k = true ∨ (a.2.getLsbD k = false ∧ a.1.getLsbD k = b.1.getLsbD k)) := fun k hk2 => by
          rcases Nat.lt_or_ge k j with h | h
          · exact hk.out k h
          · rw [show k = j by omega]; exact .inl h1
        have C1 := Lib.hid h1
        clear h1 hk
        go_wp2_with fail
        go_quiet ((go_at_call 73; exact Calls.quiet_of_same (bit_to (by first | exact C1.out) (by omega) _)))
        go_wp2_with fail
        go_round
        case rel => exact ⟨j + 1, by omega, by go_num, HN, X.out.after (below_drewN (Below.refl _ _) nq)⟩
        case measure => simp [intOf]; omega
      · have HF := Lib.hid (within_fail (a := a) (by omega) h1 (.inl h2))
        have C1 := Lib.hid h1
        have C2 := Lib.hid h2
        clear h1 h2 hk
        go_wp2_with fail
        go_quiet ((go_at_call 73; exact Calls.quiet_of_same (bit_to (by first | exact C1.out | exact C2.out) (by omega) _)))
        go_wp2_with fail
        go_ret
        exact ⟨end_bool HF.out.symm, below_draws X.out.1 _⟩
      · have HN : Hid (∀ k, k < j + 1 → b.2.getLsbD k = true ∨ (a.2.getLsbD k = false ∧ a.1.getLsbD k = b.1.getLsbD k)) := fun k hk2 => by
          rcases Nat.lt_or_ge k j with h | h
          · exact hk.out k h
          · rw [show k = j by omega]; exact .inr ⟨h2, h3⟩
        have C1 := Lib.hid h1
        have C2 := Lib.hid h2
        cases hn : b.1.getLsbD j
        all_goals
          rw [hn] at h3
          have C3 := Lib.hid h3
          have C4 := Lib.hid hn
          clear h1 h2 h3 hk hn
          go_wp2_with fail
          go_quiet ((go_at_call 73; exact Calls.quiet_of_same (bit_to (by first | exact C1.out | exact C2.out | exact C3.out | exact C4.out) (by omega) _)))
          go_wp2_with fail
          go_round
          case rel => exact ⟨j + 1, by omega, by go_num, HN, X.out.after (below_drewN (Below.refl _ _) nq)⟩
          case measure => simp [intOf]; omega
      · have HF := Lib.hid (within_fail (a := a) (by omega) h1 (.inr h3))
        have C1 := Lib.hid h1
        have C2 := Lib.hid h2
        cases hn : b.1.getLsbD j
        all_goals
          rw [hn] at h3
          have C3 : Hid (a.1.getLsbD j = _) := Lib.hid h3
          have C4 := Lib.hid hn
          clear h1 h2 h3 hk hn
          go_wp2_with fail
          go_quiet ((go_at_call 73; exact Calls.quiet_of_same (bit_to (by first | exact C1.out | exact C2.out | exact C3.out | exact C4.out) (by omega) _)))
          go_wp2_with fail
          go_ret
          exact ⟨end_bool HF.out.symm, below_draws X.out.1 _⟩
    · have HT : Hid (tW a b = tRR a b) := Lib.hid (within_end fun i hi => hk.out i (by omega))
      have HR := Lib.hid (rboth_says a b)
      clear hk
      go_wp2_with fail
      refine (HR.out _).mono ?_; rintro e w2 ⟨rfl, b2⟩
      go_wp2_with fail
      go_ret
      exact ⟨end_bool HT.out.symm, below_next' X.out.1 b2⟩

/-- A bit more. -/
theorem low_add (y : BitVec 64) (j : Nat) (h : y.getLsbD j = true) : IntKind.u64.wrap (((low y j).toNat : Int) + IntKind.u64.wrap (2 ^ j)) = ((low y (j + 1)).toNat : Int) := by
  have e1 : IntKind.u64.wrap (2 ^ j) = ((BitVec.twoPow 64 j).toNat : Int) := by
    rw [IntKind.wrap_u64, BitVec.toNat_twoPow]; simp
  rw [e1, low_succ, if_pos h, bv_add']
theorem low_same (y : BitVec 64) (j : Nat) (h : y.getLsbD j = false) : low y (j + 1) = low y j := by
  rw [low_succ, if_neg (by rw [h]; decide), BitVec.add_zero]

set_option maxRecDepth 100000 in
set_option maxHeartbeats 2000000 in
theorem rmade_says (v m : BitVec 64) (w : World) : Calls Try.prog 87 #[uV v, uV m] w (Gives (tV (tMade v m)) w) := by
  have hx := Lib.hid (show Pair (0#64, 0#64) (low (v &&& ~~~m) 0, m) w ((w.alloc (.cells #[.int .u64 0, .int .u64 0] 24)).alloc (.cells #[.int .u64 0, .int .u64 (m.toNat : Int)] 24)) by
    rw [low_none]; exact Pair.new (0#64, 0#64) (0#64, m) w)
  have hy : Hid (∀ j, j < 64 → (v &&& ~~~m).getLsbD j = (v.getLsbD j && !m.getLsbD j)) := Lib.hid fun j hj => andn_bit v m hj
  have hz : tMade v m = (low (v &&& ~~~m) 64, m) := by rw [low_all]; rfl
  rw [hz]
  clear hz
  generalize v &&& ~~~m = y at *
  go_enter Try.func87, Try.ntmps87
  go_wp2_with fail
  go_loopw [6] (fun i wr => ∃ j : Nat, j ≤ 64 ∧ i = .int .i64 j ∧ Hid (Pair (0#64, 0#64) (low y j, m) w wr)) (fun i _ => 64 - (intOf i).toNat)
  case atStart => exact ⟨0, by omega, rfl, hx⟩
  case round =>
    obtain ⟨j, hj, rfl, X⟩ := hrel
    obtain ⟨p0, p1, p2, p3⟩ := X.out.cells
    obtain ⟨f2, f3⟩ := X.out.2.2.free
    by_cases hlt : (j : Int) < 64
    · have e := hy.out j (by omega)
      have hb : (v.getLsbD j = false) ∨ (v.getLsbD j = true ∧ m.getLsbD j = true) ∨ (v.getLsbD j = true ∧ m.getLsbD j = false) := by
        cases v.getLsbD j <;> cases m.getLsbD j <;> simp
      rcases hb with h1 | ⟨h1, h2⟩ | ⟨h1, h2⟩
      · have HN := Lib.hid (low_same y j (by rw [e, h1]; rfl))
        have C1 := Lib.hid h1
        have XN : Hid (Pair (0#64, 0#64) (low y (j + 1), m) w wr) := by rw [HN.out]; exact X
        clear h1 e hy hx
        generalize low y j = l0 at *
        go_wp2_with (go_at_call 73; refine (bit_says _ j (by omega) _).mono ?_; rintro e w' ⟨rfl, rfl⟩; rw [C1.out])
        go_round
        case rel => exact ⟨j + 1, by omega, by go_num, XN⟩
        case measure => simp [intOf]; omega
      · have HN := Lib.hid (low_same y j (by rw [e, h1, h2]; rfl))
        have C1 := Lib.hid h1
        have C2 := Lib.hid h2
        have XN : Hid (Pair (0#64, 0#64) (low y (j + 1), m) w wr) := by rw [HN.out]; exact X
        clear h1 h2 e hy hx
        generalize low y j = l0 at *
        go_wp2_with (go_at_call 73; refine (bit_says _ j (by omega) _).mono ?_; rintro e w' ⟨rfl, rfl⟩; (first | rw [C1.out] | rw [C2.out]))
        go_round
        case rel => exact ⟨j + 1, by omega, by go_num, XN⟩
        case measure => simp [intOf]; omega
      · have hn := low_add y j (by rw [e, h1, h2]; rfl)
        have C1 := Lib.hid h1
        have C2 := Lib.hid h2
        clear h1 h2 e hy hx
        generalize hl1 : low y (j + 1) = l1 at *
        generalize hl0 : low y j = l0 at *
        clear hl0
        have HL := Lib.hid hl1
        clear hl1
        go_wp2_with (go_at_call 73; refine (bit_says _ j (by omega) _).mono ?_; rintro e w' ⟨rfl, rfl⟩; (first | rw [C1.out] | rw [C2.out]))
        go_still_tail 6, (by kernel_rfl)
        change wpList _ _ _ _ _ wr.drew
        have X2 := Lib.hid (X.out.after (Below.drew (Below.refl _ _)))
        clear X p0 p1 p2 p3 f2 f3
        generalize wr.drew = w2 at *
        obtain ⟨p0, p1, p2, p3⟩ := X2.out.cells
        obtain ⟨f2, f3⟩ := X2.out.2.2.free
        have X3 : Hid (Pair (0#64, 0#64) (l1, m) w (w2.setCell ⟨w.heap.size + 1, 0, none⟩ (uV l1))) := Lib.hid ⟨X2.out.1.setCell (by simp) _, X2.out.2.1.other _ (by omega), X2.out.2.2.set0 l1⟩
        go_wp2_with fail
        go_round
        case rel => exact ⟨j + 1, by omega, by go_num, by rw [HL.out]; exact X3⟩
        case measure => simp [intOf]; omega
    · have hj2 : j = 64 := by omega
      subst hj2
      obtain ⟨q0, q1⟩ := X.out.2.1.free
      clear hx hy
      generalize low y 64 = l at *
      have X2 : Hid (Below w.heap.size w ((wr.setCell ⟨w.heap.size, 0, none⟩ (uV l)).setCell ⟨w.heap.size, 1, none⟩ (uV m))) := Lib.hid ((X.out.1.setCell (Nat.le_refl _) _).setCell (Nat.le_refl _) _)
      go_wp2_with fail
      exact bodyPost_ret (v := tV (l, m)) (by simp [results, Try.results87, go_sem, p0, p1]) rfl ⟨rfl, X2.out⟩

end Go.Proofs.Ytdgckjkdimnpoaa

namespace Go.Proofs.Ytdgckjkdimnpoaa
open Go.RowKit
set_option maxRecDepth 100000
set_option linter.unusedVariables false

theorem mok_fail {a b : Tn} {j : Nat} (hj : j < 64) (h1 : a.2.getLsbD j = false) (h2 : b.2.getLsbD j = false) (h3 : a.1.getLsbD j = !b.1.getLsbD j) : tMok a b = false := by
  cases hr : tRR a b
  · unfold tMok; rw [hr]; rfl
  · obtain ⟨ra, rb⟩ := (tRR_iff a b).mp hr
    rw [← Bool.not_eq_true, mok_iff ra rb]
    intro h
    have e := h j hj
    rw [h1, h2, h3] at e
    revert e
    cases b.1.getLsbD j <;> simp
theorem mok_end {a b : Tn} (hr : tRR a b = true) (h : ∀ k, k < 64 → a.2.getLsbD k = true ∨ b.2.getLsbD k = true ∨ a.1.getLsbD k = b.1.getLsbD k) : tMok a b = true := by
  obtain ⟨ra, rb⟩ := (tRR_iff a b).mp hr
  rw [mok_iff ra rb]
  intro i hi
  have h1 := h i hi
  revert h1
  generalize a.1.getLsbD i = u1
  generalize a.2.getLsbD i = u2
  generalize b.1.getLsbD i = u3
  generalize b.2.getLsbD i = u4
  cases u1 <;> cases u2 <;> cases u3 <;> cases u4 <;> simp

set_option maxRecDepth 100000 in
set_option maxHeartbeats 1000000 in
theorem rmeet_no (a b : Tn) (w : World) (hr : tRR a b = false) : Calls Try.prog 80 #[tV a, tV b] w (Gives (tBV (0#64, 0#64) false) w) := by
  have hx := Lib.hid (Trio.new a b w)
  have h1 := Lib.hid (rboth_says a b)
  rw [hr] at h1
  clear hr
  go_enter Try.func80, Try.ntmps80
  go_wp2_with fail
  refine (h1.out _).mono ?_; rintro e w1 ⟨rfl, b1⟩
  have x1 := hx.out.after b1
  obtain ⟨c0, c1⟩ := x1.2.cells
  obtain ⟨f0, f1⟩ := x1.2.free
  have X1 := Lib.hid (x1.set (0#64, 0#64))
  clear x1 hx b1
  go_wp2_with fail
  exact bodyPost_ret (v := tBV (0#64, 0#64) false) (by simp [results, Try.results80, go_sem, c0, c1]) rfl ⟨rfl, X1.out.1.1⟩

set_option maxRecDepth 100000 in
set_option maxHeartbeats 2000000 in
theorem rmeet_yes (a b : Tn) (w : World) (hr : tRR a b = true) : Calls Try.prog 80 #[tV a, tV b] w (Gives (tBV (tM a b) (tMok a b)) w) := by
  have hx := Lib.hid (Trio.new a b w)
  have h1 := Lib.hid (rboth_says a b)
  have HR := Lib.hid hr
  rw [hr] at h1
  clear hr
  go_enter Try.func80, Try.ntmps80
  go_wp2_with fail
  refine (h1.out _).mono ?_; rintro e w1 ⟨rfl, b1⟩
  have X1 := Lib.hid (hx.out.after b1)
  clear hx b1 h1
  go_wp2_with fail
  go_loopw [6] (fun i wr => ∃ j : Nat, j ≤ 64 ∧ i = .int .i64 j ∧ Hid (∀ k, k < j → a.2.getLsbD k = true ∨ b.2.getLsbD k = true ∨ a.1.getLsbD k = b.1.getLsbD k) ∧ Hid (Trio a b (0#64, 0#64) w wr)) (fun i _ => 64 - (intOf i).toNat)
  case atStart => exact ⟨0, by omega, rfl, fun k hk => by omega, X1⟩
  case round =>
    obtain ⟨j, hj, rfl, hk, X⟩ := hrel
    obtain ⟨p0, p1, p2, p3⟩ := X.out.1.cells
    by_cases hlt : (j : Int) < 64
    · have hb : (a.2.getLsbD j = true) ∨ (a.2.getLsbD j = false ∧ b.2.getLsbD j = true) ∨ (a.2.getLsbD j = false ∧ b.2.getLsbD j = false ∧ a.1.getLsbD j = b.1.getLsbD j) ∨ (a.2.getLsbD j = false ∧ b.2.getLsbD j = false ∧ a.1.getLsbD j = !b.1.getLsbD j) := by
        cases a.1.getLsbD j <;> cases b.2.getLsbD j <;> cases a.2.getLsbD j <;> cases b.1.getLsbD j <;> simp
      rcases hb with h1 | ⟨h1, h2⟩ | ⟨h1, h2, h3⟩ | ⟨h1, h2, h3⟩
      · have HN : Hid (∀ k, k < j + 1 → a.2.getLsbD k = true ∨ b.2.getLsbD k = true ∨ a.1.getLsbD k = b.1.getLsbD k) := fun k hk2 => by
          rcases Nat.lt_or_ge k j with h | h
          · exact hk.out k h
          · rw [show k = j by omega]; exact .inl h1
        have C1 := Lib.hid h1
        clear h1 hk
        go_wp2_with fail
        go_quiet ((go_at_call 73; exact Calls.quiet_of_same (bit_to (by first | exact C1.out) (by omega) _)))
        go_wp2_with fail
        go_round
        case rel => exact ⟨j + 1, by omega, by go_num, HN, X.out.after (below_drewN (Below.refl _ _) nq)⟩
        case measure => simp [intOf]; omega
      · have HN : Hid (∀ k, k < j + 1 → a.2.getLsbD k = true ∨ b.2.getLsbD k = true ∨ a.1.getLsbD k = b.1.getLsbD k) := fun k hk2 => by
          rcases Nat.lt_or_ge k j with h | h
          · exact hk.out k h
          · rw [show k = j by omega]; exact .inr (.inl h2)
        have C1 := Lib.hid h1
        have C2 := Lib.hid h2
        clear h1 h2 hk
        go_wp2_with fail
        go_quiet ((go_at_call 73; exact Calls.quiet_of_same (bit_to (by first | exact C1.out | exact C2.out) (by omega) _)))
        go_wp2_with fail
        go_round
        case rel => exact ⟨j + 1, by omega, by go_num, HN, X.out.after (below_drewN (Below.refl _ _) nq)⟩
        case measure => simp [intOf]; omega
      · have HN : Hid (∀ k, k < j + 1 → a.2.getLsbD k = true ∨ b.2.getLsbD k = true ∨ a.1.getLsbD k = b.1.getLsbD k) := fun k hk2 => by
          rcases Nat.lt_or_ge k j with h | h
          · exact hk.out k h
          · rw [show k = j by omega]; exact .inr (.inr h3)
        have C1 := Lib.hid h1
        have C2 := Lib.hid h2
        cases hn : b.1.getLsbD j
        all_goals
          rw [hn] at h3
          have C3 := Lib.hid h3
          have C4 := Lib.hid hn
          clear h1 h2 h3 hk hn
          go_wp2_with fail
          go_quiet ((go_at_call 73; exact Calls.quiet_of_same (bit_to (by first | exact C1.out | exact C2.out | exact C3.out | exact C4.out) (by omega) _)))
          go_wp2_with fail
          go_round
          case rel => exact ⟨j + 1, by omega, by go_num, HN, X.out.after (below_drewN (Below.refl _ _) nq)⟩
          case measure => simp [intOf]; omega
      · have HF := Lib.hid (mok_fail (by omega) h1 h2 h3)
        have HF2 : Hid (tM a b = (0#64, 0#64)) := Lib.hid (by unfold tM; rw [if_neg (by rw [HF.out]; decide)])
        have C1 := Lib.hid h1
        have C2 := Lib.hid h2
        obtain ⟨c0, c1⟩ := X.out.2.cells
        obtain ⟨f0, f1⟩ := X.out.2.free
        cases hn : b.1.getLsbD j
        all_goals
          rw [hn] at h3
          have C3 : Hid (a.1.getLsbD j = _) := Lib.hid h3
          have C4 := Lib.hid hn
          clear h1 h2 h3 hk hn
          go_wp2_with fail
          go_quiet ((go_at_call 73; exact Calls.quiet_of_same (bit_to (by first | exact C1.out | exact C2.out | exact C3.out | exact C4.out) (by omega) _)))
          have X5 := Lib.hid ((X.out.after (below_drewN (Below.refl _ _) nq)).set (0#64, 0#64))
          go_wp2_with fail
          rw [HF.out, HF2.out]
          exact bodyPost_ret (v := tBV (0#64, 0#64) false) (by simp [results, Try.results80, go_sem, c0, c1]) rfl ⟨rfl, X5.out.1.1⟩
    · have HT := Lib.hid (mok_end HR.out fun i hi => hk.out i (by omega))
      have HT2 : Hid (tMade (a.1 ||| b.1) (a.2 &&& b.2) = tM a b) := Lib.hid (by unfold tM; rw [if_pos HT.out])
      have HM := Lib.hid rmade_says
      clear hk
      go_wp2_with fail
      simp only [bv_and, bv_or]
      refine (HM.out _ _ _).mono ?_; rintro e w2 ⟨rfl, b2⟩
      rw [HT2.out]
      have x2 := X.out.after b2
      clear p0 p1 p2 p3 b2 HT2 HM HR X1 X
      generalize tM a b = t at *
      obtain ⟨c0, c1⟩ := x2.2.cells
      obtain ⟨f0, f1⟩ := x2.2.free
      have X2 := Lib.hid (x2.set t)
      clear x2
      go_wp2_with fail
      exact bodyPost_ret (v := tBV t true) (by simp [results, Try.results80, go_sem, c0, c1]) rfl ⟨by rw [HT.out], X2.out.1.1⟩

set_option maxRecDepth 100000 in
theorem rmeet_says (a b : Tn) (w : World) : Calls Try.prog 80 #[tV a, tV b] w (Gives (tBV (tM a b) (tMok a b)) w) := by
  cases hr : tRR a b
  · have e : tMok a b = false := by unfold tMok; rw [hr]; rfl
    have e2 : tM a b = (0#64, 0#64) := by unfold tM; rw [if_neg (by rw [e]; decide)]
    rw [e, e2]
    exact rmeet_no a b w hr
  · exact rmeet_yes a b w hr

end Go.Proofs.Ytdgckjkdimnpoaa

namespace Go.Proofs.Ytdgckjkdimnpoaa
open Go.RowKit
set_option maxRecDepth 100000
set_option linter.unusedVariables false

theorem rs_right (s : Sp) (w : World) : Calls Try.prog 68 #[sV s] w (Gives (.bool (sR s)) w) := by
  go_enter Try.func68, Try.ntmps68
  go_wp2
  go_ret
  exact ⟨end_bool rfl, below_alloc (Below.refl _ _) _⟩
theorem rs_both (a b : Sp) (w : World) : Calls Try.prog 75 #[sV a, sV b] w (Gives (.bool (sRR a b)) w) := by
  have h1 := Lib.hid (rs_right a)
  have h2 := Lib.hid (rs_right b)
  have hx := Lib.hid (SPair.new a b w)
  unfold sRR
  generalize sR b = y at *
  cases ha : sR a
  · rw [ha] at h1
    clear ha
    go_enter Try.func75, Try.ntmps75
    go_wp2_with fail
    refine (h1.out _).mono ?_; rintro e w1 ⟨rfl, b1⟩
    go_wp2_with fail
    go_ret
    exact ⟨rfl, (hx.out.after b1).1⟩
  · rw [ha] at h1
    clear ha
    go_enter Try.func75, Try.ntmps75
    go_wp2_with fail
    refine (h1.out _).mono ?_; rintro e w1 ⟨rfl, b1⟩
    have x1 := hx.out.after b1
    obtain ⟨p0, p1⟩ := x1.2.2.cells
    have X1 := Lib.hid x1
    clear x1 hx b1
    go_wp2_with fail
    refine (h2.out _).mono ?_; rintro e w2 ⟨rfl, b2⟩
    go_wp2_with fail
    go_ret
    exact ⟨rfl, (X1.out.after b2).1⟩
set_option maxHeartbeats 1000000 in
theorem rs_within (a b : Sp) (w : World) : Calls Try.prog 63 #[sV a, sV b] w (Gives (.bool (sW a b)) w) := by
  have h1 := Lib.hid (rs_both a b)
  have hx := Lib.hid (SPair.new a b w)
  unfold sW
  cases ha : sRR a b
  · rw [ha] at h1
    clear ha
    go_enter Try.func63, Try.ntmps63
    go_wp2_with fail
    refine (h1.out _).mono ?_; rintro e w1 ⟨rfl, b1⟩
    go_wp2_with fail
    go_ret
    exact ⟨rfl, (hx.out.after b1).1⟩
  · rw [ha] at h1
    clear ha
    rcases int_lt_or a.1 b.1 with h | h
    · rw [decide_eq_false (p := b.1 ≤ a.1) (by omega)]
      go_enter Try.func63, Try.ntmps63
      go_wp2_with fail
      refine (h1.out _).mono ?_; rintro e w1 ⟨rfl, b1⟩
      have x1 := hx.out.after b1
      obtain ⟨p0, p1⟩ := x1.2.2.cells
      obtain ⟨q0, q1⟩ := x1.2.1.cells
      have X1 := Lib.hid x1
      clear x1 hx b1
      go_wp2_with fail
      go_ret
      exact ⟨rfl, X1.out.1⟩
    · rw [decide_eq_true (p := b.1 ≤ a.1) (by omega)]
      go_enter Try.func63, Try.ntmps63
      go_wp2_with fail
      refine (h1.out _).mono ?_; rintro e w1 ⟨rfl, b1⟩
      have x1 := hx.out.after b1
      obtain ⟨p0, p1⟩ := x1.2.2.cells
      obtain ⟨q0, q1⟩ := x1.2.1.cells
      have X1 := Lib.hid x1
      clear x1 hx b1
      go_wp2_with fail
      go_ret
      exact ⟨rfl, X1.out.1⟩
end Go.Proofs.Ytdgckjkdimnpoaa
