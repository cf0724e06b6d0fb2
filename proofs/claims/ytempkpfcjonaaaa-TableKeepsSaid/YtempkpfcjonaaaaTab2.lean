/-
  Layer 9, the program's Area, isWrong, has, find.
  Conditions: the numbers fit their kinds.
-/
import Derived.Test.YtempkpfcjonaaaaTab1
import Derived.Test.YtempkpfcjonaaaaMem2
namespace Go.Proofs.Ytempkpfcjonaaaa
open Go.RowKit
set_option maxRecDepth 100000
set_option linter.unusedVariables false
set_option linter.unusedSimpArgs false

/-- A map, as a value. -/
def kV (r : TR) : Value := .agg #[.bool r.m.d.hash, .int .i64 r.m.d.key, .int .i64 r.m.d.val, .int .i64 r.m.d.max, r.v, .int .i64 (r.m.made : Int)]
theorem q9_Area (i s : Int) (w : World) (hi : 0 ≤ i ∧ i ≤ 100000) (hs : 0 ≤ s ∧ s ≤ 100000) : Calls Try.prog 20 #[.int .i64 i, .int .i64 s] w (Gives (.int .i64 (tArea i s)) w) := by
  go_enter Try.func20, Try.ntmps20
  go_wp2_with fail
  go_ret
  exact ⟨end_int (by unfold tArea; omega), Below.refl _ _⟩
theorem q9_has (w : World) (gt gm : Nat) (T : TT) (F : Nat → Prop) (i : Int) (h : RepU w gt gm T F) :
    Calls Try.prog 38 #[.pointer (some ⟨gt, 0, none⟩), .int .i64 i] w (Gives (.bool (decide (0 ≤ i) && decide (i < T.length))) w) := by
  obtain ⟨vl, L, rfl, h, -⟩ := h
  obtain ⟨A, c, hvl, k1, k2⟩ := own_slice h.row
  obtain ⟨c0, c1⟩ := h.cells
  rw [hvl] at c1
  rw [trM_len]
  clear h hvl
  unfold maxLen at k2
  by_cases h1 : 0 ≤ i
  · rw [decide_eq_true h1, Bool.true_and]
    by_cases h2 : i < (L.length : Int)
    · rw [decide_eq_true h2]
      go_enter Try.func38, Try.ntmps38
      go_wp2_with fail
      go_ret
      exact ⟨rfl, Below.refl _ _⟩
    · rw [decide_eq_false h2]
      have h2' : (L.length : Int) ≤ i := by omega
      go_enter Try.func38, Try.ntmps38
      go_wp2_with fail
      go_ret
      exact ⟨rfl, Below.refl _ _⟩
  · rw [decide_eq_false h1, Bool.false_and]
    have h1' : i < 0 := by omega
    go_enter Try.func38, Try.ntmps38
    go_wp2_with fail
    go_ret
    exact ⟨rfl, Below.refl _ _⟩


def kZ : Value := .agg #[.bool false, .int .i64 0, .int .i64 0, .int .i64 0, .map none, .int .i64 0]
theorem Blk.six {g : Nat} {a b c d e f : Value} {t : TypeId} {w : World} (h : Blk g #[a, b, c, d, e, f] t w) :
    (w.cell? ⟨g, 0, none⟩ = some a ∧ w.cell? ⟨g, 1, none⟩ = some b ∧ w.cell? ⟨g, 2, none⟩ = some c ∧ w.cell? ⟨g, 3, none⟩ = some d ∧ w.cell? ⟨g, 4, none⟩ = some e ∧ w.cell? ⟨g, 5, none⟩ = some f) ∧
    (w.frozen? ⟨g, 0, none⟩ = false ∧ w.frozen? ⟨g, 1, none⟩ = false ∧ w.frozen? ⟨g, 2, none⟩ = false ∧ w.frozen? ⟨g, 3, none⟩ = false ∧ w.frozen? ⟨g, 4, none⟩ = false ∧ w.frozen? ⟨g, 5, none⟩ = false) :=
  ⟨⟨Blk.cell h 0, Blk.cell h 1, Blk.cell h 2, Blk.cell h 3, Blk.cell h 4, Blk.cell h 5⟩, Blk.free h 0, Blk.free h 1, Blk.free h 2, Blk.free h 3, Blk.free h 4, Blk.free h 5⟩
theorem cell_on {w u : World} {p : Addr} {v : Value} (h : w.cell? p = some v) (b : Below w.heap.size w u) : u.cell? p = some v := (Below.cell b (World.block_lt_of_cell? w p h)).trans h
/-- Six cells, stored. -/
def six (w : World) (g : Nat) (a b c d e f : Value) : World := (((((w.setCell ⟨g, 0, none⟩ a).setCell ⟨g, 1, none⟩ b).setCell ⟨g, 2, none⟩ c).setCell ⟨g, 3, none⟩ d).setCell ⟨g, 4, none⟩ e).setCell ⟨g, 5, none⟩ f
theorem six_below {w0 w : World} {B g : Nat} (h : Below B w0 w) (hg : B ≤ g) (a b c d e f : Value) : Below B w0 (six w g a b c d e f) :=
  (((((h.setCell hg a).setCell hg b).setCell hg c).setCell hg d).setCell hg e).setCell hg f
theorem six_blk {w : World} {g : Nat} {a0 b0 c0 d0 e0 f0 : Value} {t : TypeId} (h : Blk g #[a0, b0, c0, d0, e0, f0] t w) (a b c d e f : Value) : Blk g #[a, b, c, d, e, f] t (six w g a b c d e f) :=
  (((((Blk.set h 0 a).set 1 b).set 2 c).set 3 d).set 4 e).set 5 f
set_option maxHeartbeats 2000000 in
theorem q9_find_no (w : World) (gt gm : Nat) (T : TT) (F : Nat → Prop) (i : Int) (key : List Int) (B : Option Addr) (n d : Nat) (h : RepU w gt gm T F) (hn : key.length = n) (hnd : n ≤ d) (hm : tMay T i key = false) :
    Calls Try.prog 44 #[.pointer (some ⟨gt, 0, none⟩), .int .i64 i, .slice B n d] w (Gives (.tuple #[kZ, .int .i64 1]) w) := by
  have HA := Lib.hid fun u (b : Below w.heap.size w u) => q9_has u gt gm T F i (h.after b)
  obtain ⟨vl, L, rfl, h, -⟩ := h
  rw [show kZ = .agg #[.bool false, .int .i64 0, .int .i64 0, .int .i64 0, .map none, .int .i64 0] from rfl]
  rw [trM_len] at HA
  unfold tMay at hm
  rw [trM_len] at hm
  have B0 := Lib.hid (below_alloc (Below.refl w.heap.size w) (.cells #[.bool false, .int .i64 0, .int .i64 0, .int .i64 0, .map none, .int .i64 0] 78))
  have Z0 := Lib.hid (Blk.new w #[.bool false, .int .i64 0, .int .i64 0, .int .i64 0, .map none, .int .i64 0] 78 rfl)
  by_cases h1 : (decide (0 ≤ i) && decide (i < L.length)) = true
  · rw [h1] at hm HA
    rw [Bool.true_and] at hm
    simp only [Bool.and_eq_true, decide_eq_true_eq] at h1
    obtain ⟨k, rfl⟩ : ∃ k : Nat, i = k := ⟨i.toNat, by omega⟩
    rw [Int.toNat_natCast, trM_at, hn] at hm
    obtain ⟨gl, c, hvl, k1, k2, hg, -, e1, -⟩ := h.at_ (k := k) (by omega)
    obtain ⟨c0, c1⟩ := h.cells
    rw [hvl] at c1
    clear h hvl
    unfold maxLen at k2
    generalize (trAt L k).m.d.key = q at *
    have hq : ((n : Int) != q) = true := by simp only [bne, hm]; rfl
    have KK := Lib.hid (And.intro c1 e1)
    clear c0 c1 e1
    go_enter Try.func44, Try.ntmps44
    go_wp2_with fail
    refine (HA.out _ B0.out).mono ?_
    rintro e w1 ⟨rfl, b1⟩
    have V := Lib.hid (below_next' B0.out b1)
    have c1 := cell_on KK.out.1 V.out
    have e1 := cell_on KK.out.2 V.out
    have ZZ := Lib.hid (Z0.out.after b1)
    obtain ⟨⟨z0, z1, z2, z3, z4, z5⟩, y0, y1, y2, y3, y4, y5⟩ := Blk.six ZZ.out
    clear b1
    generalize hgr : w.heap.size = ρ at *
    go_wp2_with fail
    have R := six_blk ZZ.out (.bool false) (.int .i64 0) (.int .i64 0) (.int .i64 0) (.map none) (.int .i64 0)
    have RB := six_below V.out (Nat.le_refl _) (.bool false) (.int .i64 0) (.int .i64 0) (.int .i64 0) (.map none) (.int .i64 0)
    obtain ⟨⟨r0, r1, r2, r3, r4, r5⟩, -⟩ := Blk.six R
    unfold six at r0 r1 r2 r3 r4 r5 RB
    exact bodyPost_ret (v := .tuple #[.agg #[.bool false, .int .i64 0, .int .i64 0, .int .i64 0, .map none, .int .i64 0], .int .i64 1]) (by simp [results, Try.results44, go_sem, r0, r1, r2, r3, r4, r5]) rfl ⟨rfl, by rw [hgr]; exact RB⟩
  · rw [Bool.not_eq_true] at h1
    rw [h1] at HA
    clear h hm h1
    go_enter Try.func44, Try.ntmps44
    go_wp2_with fail
    refine (HA.out _ B0.out).mono ?_
    rintro e w1 ⟨rfl, b1⟩
    have V := Lib.hid (below_next' B0.out b1)
    have ZZ := Lib.hid (Z0.out.after b1)
    obtain ⟨⟨z0, z1, z2, z3, z4, z5⟩, y0, y1, y2, y3, y4, y5⟩ := Blk.six ZZ.out
    clear b1
    generalize hgr : w.heap.size = ρ at *
    go_wp2_with fail
    have R := six_blk ZZ.out (.bool false) (.int .i64 0) (.int .i64 0) (.int .i64 0) (.map none) (.int .i64 0)
    have RB := six_below V.out (Nat.le_refl _) (.bool false) (.int .i64 0) (.int .i64 0) (.int .i64 0) (.map none) (.int .i64 0)
    obtain ⟨⟨r0, r1, r2, r3, r4, r5⟩, -⟩ := Blk.six R
    unfold six at r0 r1 r2 r3 r4 r5 RB
    exact bodyPost_ret (v := .tuple #[.agg #[.bool false, .int .i64 0, .int .i64 0, .int .i64 0, .map none, .int .i64 0], .int .i64 1]) (by simp [results, Try.results44, go_sem, r0, r1, r2, r3, r4, r5]) rfl ⟨rfl, by rw [hgr]; exact RB⟩

set_option maxHeartbeats 2000000 in
theorem q9_find_yes (w : World) (gt gm : Nat) (vl : Value) (L : List TR) (F : Nat → Prop) (k : Nat) (key : List Int) (B : Option Addr) (n d : Nat) (hU : RepU w gt gm (trM L) F) (h : RepV w gt gm vl L F) (hk : k < L.length) (hn : key.length = n) (hnd : n ≤ d) (hm : (n : Int) = (trAt L k).m.d.key) :
    Calls Try.prog 44 #[.pointer (some ⟨gt, 0, none⟩), .int .i64 (k : Int), .slice B n d] w (Gives (.tuple #[kV (trAt L k), .int .i64 0]) w) := by
  have HA := Lib.hid fun u (b : Below w.heap.size w u) => q9_has u gt gm _ F (k : Int) (hU.after b)
  rw [trM_len, decide_eq_true (by omega : (0 : Int) ≤ (k : Int)), decide_eq_true (by omega : (k : Int) < (L.length : Int)), Bool.and_self] at HA
  have B0 := Lib.hid (below_alloc (Below.refl w.heap.size w) (.cells #[.bool false, .int .i64 0, .int .i64 0, .int .i64 0, .map none, .int .i64 0] 78))
  have Z0 := Lib.hid (Blk.new w #[.bool false, .int .i64 0, .int .i64 0, .int .i64 0, .map none, .int .i64 0] 78 rfl)
  obtain ⟨gl, c, hvl, k1, k2, hg, e0, e1, e2, e3, e4, e5⟩ := h.at_ (k := k) (by omega)
  obtain ⟨c0, c1⟩ := h.cells
  rw [hvl] at c1
  obtain ⟨mb, hmb⟩ : ∃ mb, (trAt L k).v = .map mb := by
    rcases h.own k hk with ⟨h, _⟩ | ⟨b, h, _⟩
    · exact ⟨_, h⟩
    · exact ⟨_, h⟩
  unfold kV
  rw [hmb] at e4 ⊢
  clear h hvl hU hmb
  unfold maxLen at k2
  generalize (trAt L k).m.d.key = q at *
  generalize (trAt L k).m.d.hash = qh at *
  generalize (trAt L k).m.d.val = qv at *
  generalize (trAt L k).m.d.max = qm at *
  generalize (trAt L k).m.made = qd at *
  have hq : ((n : Int) != q) = false := by rw [hm]; simp
  have k0 : (0 : Int) ≤ k := by omega
  have k3 : (k : Int) < L.length := by omega
  clear hm
  have KK := Lib.hid (And.intro c1 (And.intro e0 (And.intro e1 (And.intro e2 (And.intro e3 (And.intro e4 e5))))))
  clear c0 c1 e1 e0 e2 e3 e4 e5
  go_enter Try.func44, Try.ntmps44
  go_wp2_with fail
  refine (HA.out _ B0.out).mono ?_
  rintro e w1 ⟨rfl, b1⟩
  have V := Lib.hid (below_next' B0.out b1)
  have c1 := cell_on KK.out.1 V.out
  have e0 := cell_on KK.out.2.1 V.out
  have e1 := cell_on KK.out.2.2.1 V.out
  have e2 := cell_on KK.out.2.2.2.1 V.out
  have e3 := cell_on KK.out.2.2.2.2.1 V.out
  have e4 := cell_on KK.out.2.2.2.2.2.1 V.out
  have e5 := cell_on KK.out.2.2.2.2.2.2 V.out
  have ZZ := Lib.hid (Z0.out.after b1)
  obtain ⟨⟨z0, z1, z2, z3, z4, z5⟩, y0, y1, y2, y3, y4, y5⟩ := Blk.six ZZ.out
  clear b1
  generalize hgr : w.heap.size = ρ at *
  go_wp2_with fail
  have R := six_blk ZZ.out (.bool qh) (.int .i64 q) (.int .i64 qv) (.int .i64 qm) (.map mb) (.int .i64 qd)
  have RB := six_below V.out (Nat.le_refl _) (.bool qh) (.int .i64 q) (.int .i64 qv) (.int .i64 qm) (.map mb) (.int .i64 qd)
  obtain ⟨⟨r0, r1, r2, r3, r4, r5⟩, -⟩ := Blk.six R
  unfold six at r0 r1 r2 r3 r4 r5 RB
  exact bodyPost_ret (v := .tuple #[.agg #[.bool qh, .int .i64 q, .int .i64 qv, .int .i64 qm, .map mb, .int .i64 qd], .int .i64 0]) (by simp [results, Try.results44, go_sem, r0, r1, r2, r3, r4, r5]) rfl ⟨rfl, by rw [hgr]; exact RB⟩

end Go.Proofs.Ytempkpfcjonaaaa
