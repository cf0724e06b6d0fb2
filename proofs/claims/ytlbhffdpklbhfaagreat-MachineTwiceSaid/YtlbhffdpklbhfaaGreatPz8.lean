/-
  Texts, one behind the other: Mem2, Tab2, Tab3, Tab4.
  Conditions: those that each theorem states.
-/
import Derived.Laws.CopyOwn
import Derived.LoopTactic
import Derived.Test.YtlbhffdpklbhfaaGreatPz7
namespace Go.Proofs.YtlbhffdpklbhfaaGreat
open Go.RowKit
set_option maxRecDepth 100000
set_option linter.unusedVariables false
set_option linter.unusedSimpArgs false
theorem make_bytes (w : World) (n : Nat) (hn : n ≤ 100000) : (Instr.makeSlice 23 (.int .i64 (n : Int)) (.int .i64 (n : Int))).run Tryz.prog w = .ok (.slice (some ⟨w.heap.size, 0, none⟩) n n) (w.alloc (.cells (byC (List.replicate n 0)).toArray 5)) := by
  obtain ⟨i, hi, hz, h1, h2⟩ := info_parts (show (Tryz.prog.info? 5).map (fun i => (i.zero, i.size, i.bytes)) = some (some (.int .u8 0), 1, 1) by kernel_rfl)
  have hr := run_make (P := Tryz.prog) w 23 5 i (.int .u8 0) Tryz.underlying23 hi hz .i64 .i64 n n (by omega) (Int.le_refl _) (by rw [h2]; omega) (by omega)
  rw [hr, h1]
  simp only [Int.toNat_natCast, Nat.mul_one]
  have e : madeCells (Value.int .u8 0).cells n = (byC (List.replicate n 0)).toArray := by
    apply Array.ext'
    rw [byC_zeros]
    exact toList_madeCells_one _ _
  rw [e]
theorem make_bools (w : World) (n : Nat) (hn : n ≤ 100000) : (Instr.makeSlice 104 (.int .i64 (n : Int)) (.int .i64 (n : Int))).run Tryz.prog w = .ok (.slice (some ⟨w.heap.size, 0, none⟩) n n) (w.alloc (.cells (boC (List.replicate n false)).toArray 4)) := by
  obtain ⟨i, hi, hz, h1, h2⟩ := info_parts (show (Tryz.prog.info? 4).map (fun i => (i.zero, i.size, i.bytes)) = some (some (.bool false), 1, 1) by kernel_rfl)
  have hr := run_make (P := Tryz.prog) w 104 4 i (.bool false) Tryz.underlying104 hi hz .i64 .i64 n n (by omega) (Int.le_refl _) (by rw [h2]; omega) (by omega)
  rw [hr, h1]
  simp only [Int.toNat_natCast, Nat.mul_one]
  have e : madeCells (Value.bool false).cells n = (boC (List.replicate n false)).toArray := by
    apply Array.ext'
    rw [show boC (List.replicate n false) = List.replicate n (.bool false) by simp [boC]]
    exact toList_madeCells_one _ _
  rw [e]
theorem own_full {w : World} {g n base : Nat} {e : TypeId} {xs : List Value} (h : w.heap[g]? = some (.cells xs.toArray e (0, 0))) (hx : xs.length = n) (hn : n ≤ 100000) (hb : base ≤ g) : w.ownsRow base e 1 (.slice (some ⟨g, 0, none⟩) n n) n xs :=
  ⟨by rw [hx]; omega, .inr ⟨g, n, _, rfl, hb, h, Nat.le_refl _, by unfold maxLen; omega, by simp [hx], by rw [List.take_of_length_le]; simp; omega⟩⟩
set_option maxRecDepth 100000 in
set_option maxHeartbeats 2000000 in
theorem c8_own (w : World) (A : Option Addr) (b : List Int) (n d : Nat) (hb : BytS w A b) (hn : b.length = n) (hs : n ≤ 100000) :
    Calls Tryz.prog 140 #[.slice A n d] w (fun e w' => ∃ g, e = .returned (.slice (some ⟨g, 0, none⟩) n n) ∧ w'.ownsRow w.heap.size 5 1 (.slice (some ⟨g, 0, none⟩) n n) n (byC b) ∧ Below w.heap.size w w') := by
  have hm := make_bytes w n hs
  have HB := Lib.hid hb
  have HN := Lib.hid hn
  have HS := Lib.hid hs
  clear hb hn
  have HF : Hid (∀ (w' : World) (g : Nat), w'.heap[g]? = some (.cells (splice (byC (List.replicate n 0)) 0 (byC b)).toArray 5 (0, 0)) → w.heap.size ≤ g → w'.ownsRow w.heap.size 5 1 (.slice (some ⟨g, 0, none⟩) n n) n (byC b)) := Lib.hid fun w' g h hg => by
    have e : splice (byC (List.replicate n 0)) 0 (byC b) = byC b := by
      unfold splice
      simp only [List.take_zero, List.nil_append, Nat.zero_add, byC_len, HN.out]
      rw [List.drop_eq_nil_of_le (by rw [byC_len, List.length_replicate]; omega), List.append_nil]
    rw [e] at h
    exact own_full h (by rw [byC_len]; exact HN.out) HS.out hg
  obtain ⟨cs, hcs⟩ : ∃ cs, cs = byC b := ⟨_, rfl⟩
  obtain ⟨zs, hzs⟩ : ∃ zs, zs = byC (List.replicate n 0) := ⟨_, rfl⟩
  rw [← hcs, ← hzs] at HF
  rw [← hcs]
  rw [← hzs] at hm
  have CL : Hid (cs.length = n) := Lib.hid (by rw [hcs, byC_len]; exact HN.out)
  have ZL : Hid (zs.length = n) := Lib.hid (by rw [hzs, byC_len, List.length_replicate])
  have CO : Hid (∀ v ∈ cs, v.oneCell' = true) := Lib.hid (by rw [hcs]; exact byC_one b)
  have SRC : Hid (∀ u : World, Below w.heap.size w u → 0 < cs.length → ∃ ad, A = some ad ∧ ∀ j v, cs[j]? = some v → u.cell? (ad.add j) = some v) := Lib.hid fun u hu hp => by
    rw [hcs, byC_len] at hp
    obtain ⟨g, o, rfl, hg, hc⟩ := HB.out.after hu hp
    refine ⟨_, rfl, fun j v hv => ?_⟩
    rw [hcs] at hv
    exact byt_news ⟨hg, hc⟩ j v hv
  clear hcs hzs HB HN
  have NW : Hid ((w.alloc (.cells zs.toArray 5)).heap[w.heap.size]? = some (.cells zs.toArray 5 (0, 0))) := Lib.hid (Blk.new w zs.toArray 5 rfl)
  have BW : Hid (Below w.heap.size w (w.alloc (.cells zs.toArray 5))) := Lib.hid (below_alloc (Below.refl _ _) _)
  generalize w.alloc (.cells zs.toArray 5) = w1 at *
  go_enter Tryz.func140, Tryz.ntmps140
  go_wp2_with ((refine wpList_copy_splice rfl (.tmp 7) (.tmp 8) _ _ rfl 5 Tryz.underlying23 (by kernel_rfl) _ _ _ _ _ _ rfl rfl w.heap.size 0 zs 5 NW.out cs (by rw [CL.out]; exact (Nat.min_self n).symm) (fun hp => ⟨rfl, SRC.out _ BW.out hp⟩) (by rw [CL.out, ZL.out]; omega) CO.out w.heap.size w BW.out (Nat.le_refl _) ?_))
  intro w2 HG hB
  have V := Lib.hid hB
  clear hB
  go_wp2_with fail
  go_ret
  exact ⟨_, rfl, HF.out _ _ HG.out (Nat.le_refl _), V.out⟩
set_option maxRecDepth 100000 in
theorem c8_isOf (s : Int) (w : World) : Calls Tryz.prog 161 #[.int .i64 s] w (Gives (.bool (fitsZ s)) w) := by
  unfold fitsZ
  cases h1 : (s == 1) <;> cases h2 : (s == 2) <;> cases h4 : (s == 4) <;> cases h8 : (s == 8) <;>
  (go_enter Tryz.func161, Tryz.ntmps161
   go_wp2_with fail
   go_ret
   exact ⟨rfl, Below.refl _ _⟩)
theorem c8_At (a o : Int) (w : World) : Calls Tryz.prog 19 #[.int .i64 a, .int .i64 o] w (Gives (.int .u64 (atI a o)) w) := by
  go_enter Tryz.func19, Tryz.ntmps19
  go_wp2_with fail
  go_ret
  refine ⟨?_, Below.refl _ _⟩
  apply end_int
  unfold atI
  simp only [IntKind.wrap_u64]
  omega
def kV (r : TR) : Value := .agg #[.bool r.m.d.hash, .int .i64 r.m.d.key, .int .i64 r.m.d.val, .int .i64 r.m.d.max, r.v, .int .i64 (r.m.made : Int)]
theorem q9_Area (i s : Int) (w : World) (hi : 0 ≤ i ∧ i ≤ 100000) (hs : 0 ≤ s ∧ s ≤ 100000) : Calls Tryz.prog 98 #[.int .i64 i, .int .i64 s] w (Gives (.int .i64 (tArea i s)) w) := by
  go_enter Tryz.func98, Tryz.ntmps98
  go_wp2_with fail
  go_ret
  exact ⟨end_int (by unfold tArea; omega), Below.refl _ _⟩
theorem q9_has (w : World) (gt gm : Nat) (T : TT) (F : Nat → Prop) (i : Int) (h : RepU w gt gm T F) :
    Calls Tryz.prog 134 #[.pointer (some ⟨gt, 0, none⟩), .int .i64 i] w (Gives (.bool (decide (0 ≤ i) && decide (i < T.length))) w) := by
  obtain ⟨vl, L, rfl, h, -⟩ := h
  obtain ⟨A, c, hvl, k1, k2⟩ := own_slice h.row
  obtain ⟨c0, c1⟩ := h.cells
  rw [hvl] at c1
  rw [trM_len]
  clear h hvl
  unfold maxLen at k2
  by_cases h1 : 0 ≤ i
  · rw [decide_eq_true h1, Bool.true_and]
    by_cases h2 : i < (L.length : Int)
    · rw [decide_eq_true h2]
      go_enter Tryz.func134, Tryz.ntmps134
      go_wp2_with fail
      go_ret
      exact ⟨rfl, Below.refl _ _⟩
    · rw [decide_eq_false h2]
      have h2' : (L.length : Int) ≤ i := by omega
      go_enter Tryz.func134, Tryz.ntmps134
      go_wp2_with fail
      go_ret
      exact ⟨rfl, Below.refl _ _⟩
  · rw [decide_eq_false h1, Bool.false_and]
    have h1' : i < 0 := by omega
    go_enter Tryz.func134, Tryz.ntmps134
    go_wp2_with fail
    go_ret
    exact ⟨rfl, Below.refl _ _⟩
def kZ : Value := .agg #[.bool false, .int .i64 0, .int .i64 0, .int .i64 0, .map none, .int .i64 0]
theorem Blk.six {g : Nat} {a b c d e f : Value} {t : TypeId} {w : World} (h : Blk g #[a, b, c, d, e, f] t w) :
    (w.cell? ⟨g, 0, none⟩ = some a ∧ w.cell? ⟨g, 1, none⟩ = some b ∧ w.cell? ⟨g, 2, none⟩ = some c ∧ w.cell? ⟨g, 3, none⟩ = some d ∧ w.cell? ⟨g, 4, none⟩ = some e ∧ w.cell? ⟨g, 5, none⟩ = some f) ∧
    (w.frozen? ⟨g, 0, none⟩ = false ∧ w.frozen? ⟨g, 1, none⟩ = false ∧ w.frozen? ⟨g, 2, none⟩ = false ∧ w.frozen? ⟨g, 3, none⟩ = false ∧ w.frozen? ⟨g, 4, none⟩ = false ∧ w.frozen? ⟨g, 5, none⟩ = false) :=
  ⟨⟨Blk.cell h 0, Blk.cell h 1, Blk.cell h 2, Blk.cell h 3, Blk.cell h 4, Blk.cell h 5⟩, Blk.free h 0, Blk.free h 1, Blk.free h 2, Blk.free h 3, Blk.free h 4, Blk.free h 5⟩
theorem cell_on {w u : World} {p : Addr} {v : Value} (h : w.cell? p = some v) (b : Below w.heap.size w u) : u.cell? p = some v := (Below.cell b (World.block_lt_of_cell? w p h)).trans h
def six (w : World) (g : Nat) (a b c d e f : Value) : World := (((((w.setCell ⟨g, 0, none⟩ a).setCell ⟨g, 1, none⟩ b).setCell ⟨g, 2, none⟩ c).setCell ⟨g, 3, none⟩ d).setCell ⟨g, 4, none⟩ e).setCell ⟨g, 5, none⟩ f
theorem six_below {w0 w : World} {B g : Nat} (h : Below B w0 w) (hg : B ≤ g) (a b c d e f : Value) : Below B w0 (six w g a b c d e f) :=
  (((((h.setCell hg a).setCell hg b).setCell hg c).setCell hg d).setCell hg e).setCell hg f
theorem six_blk {w : World} {g : Nat} {a0 b0 c0 d0 e0 f0 : Value} {t : TypeId} (h : Blk g #[a0, b0, c0, d0, e0, f0] t w) (a b c d e f : Value) : Blk g #[a, b, c, d, e, f] t (six w g a b c d e f) :=
  (((((Blk.set h 0 a).set 1 b).set 2 c).set 3 d).set 4 e).set 5 f
set_option maxHeartbeats 2000000 in
theorem q9_find_no (w : World) (gt gm : Nat) (T : TT) (F : Nat → Prop) (i : Int) (key : List Int) (B : Option Addr) (n d : Nat) (h : RepU w gt gm T F) (hn : key.length = n) (hnd : n ≤ d) (hm : tMay T i key = false) :
    Calls Tryz.prog 96 #[.pointer (some ⟨gt, 0, none⟩), .int .i64 i, .slice B n d] w (Gives (.tuple #[kZ, .int .i64 1]) w) := by
  have HA := Lib.hid fun u (b : Below w.heap.size w u) => q9_has u gt gm T F i (h.after b)
  obtain ⟨vl, L, rfl, h, -⟩ := h
  rw [show kZ = .agg #[.bool false, .int .i64 0, .int .i64 0, .int .i64 0, .map none, .int .i64 0] from rfl]
  rw [trM_len] at HA
  unfold tMay at hm
  rw [trM_len] at hm
  have B0 := Lib.hid (below_alloc (Below.refl w.heap.size w) (.cells #[.bool false, .int .i64 0, .int .i64 0, .int .i64 0, .map none, .int .i64 0] 117))
  have Z0 := Lib.hid (Blk.new w #[.bool false, .int .i64 0, .int .i64 0, .int .i64 0, .map none, .int .i64 0] 117 rfl)
  by_cases h1 : (decide (0 ≤ i) && decide (i < L.length)) = true
  · rw [h1] at hm HA
    rw [Bool.true_and] at hm
    simp only [Bool.and_eq_true, decide_eq_true_eq] at h1
    obtain ⟨k, rfl⟩ : ∃ k : Nat, i = k := ⟨i.toNat, by omega⟩
    rw [Int.toNat_natCast, trM_at, hn] at hm
    obtain ⟨gl, c, hvl, k1, k2, hg, -, e1, -⟩ := h.at_ (k := k) (by omega)
    obtain ⟨c0, c1⟩ := h.cells
    rw [hvl] at c1
    clear h hvl
    unfold maxLen at k2
    generalize (trAt L k).m.d.key = q at *
    have hq : ((n : Int) != q) = true := by simp only [bne, hm]; rfl
    have KK := Lib.hid (And.intro c1 e1)
    clear c0 c1 e1
    go_enter Tryz.func96, Tryz.ntmps96
    go_wp2_with fail
    refine (HA.out _ B0.out).mono ?_
    rintro e w1 ⟨rfl, b1⟩
    have V := Lib.hid (below_next' B0.out b1)
    have c1 := cell_on KK.out.1 V.out
    have e1 := cell_on KK.out.2 V.out
    have ZZ := Lib.hid (Z0.out.after b1)
    obtain ⟨⟨z0, z1, z2, z3, z4, z5⟩, y0, y1, y2, y3, y4, y5⟩ := Blk.six ZZ.out
    clear b1
    generalize hgr : w.heap.size = ρ at *
    go_wp2_with fail
    have R := six_blk ZZ.out (.bool false) (.int .i64 0) (.int .i64 0) (.int .i64 0) (.map none) (.int .i64 0)
    have RB := six_below V.out (Nat.le_refl _) (.bool false) (.int .i64 0) (.int .i64 0) (.int .i64 0) (.map none) (.int .i64 0)
    obtain ⟨⟨r0, r1, r2, r3, r4, r5⟩, -⟩ := Blk.six R
    unfold six at r0 r1 r2 r3 r4 r5 RB
    exact bodyPost_ret (v := .tuple #[.agg #[.bool false, .int .i64 0, .int .i64 0, .int .i64 0, .map none, .int .i64 0], .int .i64 1]) (by simp [results, Tryz.results96, go_sem, r0, r1, r2, r3, r4, r5]) rfl ⟨rfl, by rw [hgr]; exact RB⟩
  · rw [Bool.not_eq_true] at h1
    rw [h1] at HA
    clear h hm h1
    go_enter Tryz.func96, Tryz.ntmps96
    go_wp2_with fail
    refine (HA.out _ B0.out).mono ?_
    rintro e w1 ⟨rfl, b1⟩
    have V := Lib.hid (below_next' B0.out b1)
    have ZZ := Lib.hid (Z0.out.after b1)
    obtain ⟨⟨z0, z1, z2, z3, z4, z5⟩, y0, y1, y2, y3, y4, y5⟩ := Blk.six ZZ.out
    clear b1
    generalize hgr : w.heap.size = ρ at *
    go_wp2_with fail
    have R := six_blk ZZ.out (.bool false) (.int .i64 0) (.int .i64 0) (.int .i64 0) (.map none) (.int .i64 0)
    have RB := six_below V.out (Nat.le_refl _) (.bool false) (.int .i64 0) (.int .i64 0) (.int .i64 0) (.map none) (.int .i64 0)
    obtain ⟨⟨r0, r1, r2, r3, r4, r5⟩, -⟩ := Blk.six R
    unfold six at r0 r1 r2 r3 r4 r5 RB
    exact bodyPost_ret (v := .tuple #[.agg #[.bool false, .int .i64 0, .int .i64 0, .int .i64 0, .map none, .int .i64 0], .int .i64 1]) (by simp [results, Tryz.results96, go_sem, r0, r1, r2, r3, r4, r5]) rfl ⟨rfl, by rw [hgr]; exact RB⟩
set_option maxHeartbeats 2000000 in
theorem q9_find_yes (w : World) (gt gm : Nat) (vl : Value) (L : List TR) (F : Nat → Prop) (k : Nat) (key : List Int) (B : Option Addr) (n d : Nat) (hU : RepU w gt gm (trM L) F) (h : RepV w gt gm vl L F) (hk : k < L.length) (hn : key.length = n) (hnd : n ≤ d) (hm : (n : Int) = (trAt L k).m.d.key) :
    Calls Tryz.prog 96 #[.pointer (some ⟨gt, 0, none⟩), .int .i64 (k : Int), .slice B n d] w (Gives (.tuple #[kV (trAt L k), .int .i64 0]) w) := by
  have HA := Lib.hid fun u (b : Below w.heap.size w u) => q9_has u gt gm _ F (k : Int) (hU.after b)
  rw [trM_len, decide_eq_true (by omega : (0 : Int) ≤ (k : Int)), decide_eq_true (by omega : (k : Int) < (L.length : Int)), Bool.and_self] at HA
  have B0 := Lib.hid (below_alloc (Below.refl w.heap.size w) (.cells #[.bool false, .int .i64 0, .int .i64 0, .int .i64 0, .map none, .int .i64 0] 117))
  have Z0 := Lib.hid (Blk.new w #[.bool false, .int .i64 0, .int .i64 0, .int .i64 0, .map none, .int .i64 0] 117 rfl)
  obtain ⟨gl, c, hvl, k1, k2, hg, e0, e1, e2, e3, e4, e5⟩ := h.at_ (k := k) (by omega)
  obtain ⟨c0, c1⟩ := h.cells
  rw [hvl] at c1
  obtain ⟨mb, hmb⟩ : ∃ mb, (trAt L k).v = .map mb := by
    rcases h.own k hk with ⟨h, _⟩ | ⟨b, h, _⟩
    · exact ⟨_, h⟩
    · exact ⟨_, h⟩
  unfold kV
  rw [hmb] at e4 ⊢
  clear h hvl hU hmb
  unfold maxLen at k2
  generalize (trAt L k).m.d.key = q at *
  generalize (trAt L k).m.d.hash = qh at *
  generalize (trAt L k).m.d.val = qv at *
  generalize (trAt L k).m.d.max = qm at *
  generalize (trAt L k).m.made = qd at *
  have hq : ((n : Int) != q) = false := by rw [hm]; simp
  have k0 : (0 : Int) ≤ k := by omega
  have k3 : (k : Int) < L.length := by omega
  clear hm
  have KK := Lib.hid (And.intro c1 (And.intro e0 (And.intro e1 (And.intro e2 (And.intro e3 (And.intro e4 e5))))))
  clear c0 c1 e1 e0 e2 e3 e4 e5
  go_enter Tryz.func96, Tryz.ntmps96
  go_wp2_with fail
  refine (HA.out _ B0.out).mono ?_
  rintro e w1 ⟨rfl, b1⟩
  have V := Lib.hid (below_next' B0.out b1)
  have c1 := cell_on KK.out.1 V.out
  have e0 := cell_on KK.out.2.1 V.out
  have e1 := cell_on KK.out.2.2.1 V.out
  have e2 := cell_on KK.out.2.2.2.1 V.out
  have e3 := cell_on KK.out.2.2.2.2.1 V.out
  have e4 := cell_on KK.out.2.2.2.2.2.1 V.out
  have e5 := cell_on KK.out.2.2.2.2.2.2 V.out
  have ZZ := Lib.hid (Z0.out.after b1)
  obtain ⟨⟨z0, z1, z2, z3, z4, z5⟩, y0, y1, y2, y3, y4, y5⟩ := Blk.six ZZ.out
  clear b1
  generalize hgr : w.heap.size = ρ at *
  go_wp2_with fail
  have R := six_blk ZZ.out (.bool qh) (.int .i64 q) (.int .i64 qv) (.int .i64 qm) (.map mb) (.int .i64 qd)
  have RB := six_below V.out (Nat.le_refl _) (.bool qh) (.int .i64 q) (.int .i64 qv) (.int .i64 qm) (.map mb) (.int .i64 qd)
  obtain ⟨⟨r0, r1, r2, r3, r4, r5⟩, -⟩ := Blk.six R
  unfold six at r0 r1 r2 r3 r4 r5 RB
  exact bodyPost_ret (v := .tuple #[.agg #[.bool qh, .int .i64 q, .int .i64 qv, .int .i64 qm, .map mb, .int .i64 qd], .int .i64 0]) (by simp [results, Tryz.results96, go_sem, r0, r1, r2, r3, r4, r5]) rfl ⟨rfl, by rw [hgr]; exact RB⟩
set_option maxHeartbeats 2000000 in
theorem q9_Look_no (w : World) (gt gm : Nat) (T : TT) (F : Nat → Prop) (i : Int) (key : List Int) (B : Option Addr) (n d : Nat) (h : RepU w gt gm T F) (hn : key.length = n) (hnd : n ≤ d) (hm : tMay T i key = false) :
    Calls Tryz.prog 158 #[.pointer (some ⟨gt, 0, none⟩), .int .i64 i, .slice B n d] w (Gives (.tuple #[.int .u64 0, .int .i64 1]) w) := by
  have FI := Lib.hid (q9_find_no w gt gm T F i key B n d h hn hnd hm)
  rw [show kZ = .agg #[.bool false, .int .i64 0, .int .i64 0, .int .i64 0, .map none, .int .i64 0] from rfl] at FI
  clear h hm hn
  go_enter Tryz.func158, Tryz.ntmps158
  go_wp2_with fail
  refine (FI.out).mono ?_
  rintro e w1 ⟨rfl, b1⟩
  have V := Lib.hid b1
  clear b1
  go_wp2_with fail
  go_ret2
  exact ⟨rfl, below_alloc V.out _⟩
structure SeeK (w : World) (mb : Option Nat) (K : List TK) (key : List Int) (B : Option Addr) (n d : Nat) : Prop where
  look : ∀ u, Below w.heap.size w u → (Instr.lookup 115 (.map mb) (.string (strOfNums key)) true).run Tryz.prog u = .ok (.tuple #[.int .i64 (((tFind K key).getD 0 : Nat) : Int), .bool (tFind K key).isSome]) u
  str : ∀ u, Below w.heap.size w u → (convert 23 9 (.slice B n d)).run Tryz.prog u = .ok (.string (strOfNums key)) u
theorem RepV.seeK {w : World} {gt gm : Nat} {vl : Value} {L : List TR} {F : Nat → Prop} (hU : TOk (trM L)) (h : RepV w gt gm vl L F) {k : Nat} (hk : k < L.length) {mb : Option Nat} (hv : (trAt L k).v = .map mb) {key : List Int} {B : Option Addr} {n d : Nat} (hb : BytS w B key) (hob : OkB key) (hn : key.length = n) (hm : n ≤ maxLen) :
    SeeK w mb (trAt L k).m.L key B n d :=
  ⟨fun u b => by
    have hs : SlotR u (.map mb) (trAt L k).m.L := by
      rw [← hv]
      exact (h.own k hk).same fun x hx => b.block x (h.lt (h.footK hx))
    exact hs.look (fun x hx => by
      have := (hU k (by rw [trM_len]; exact hk)).keys x (by rw [trM_at]; exact hx)
      exact this.1) hob (by omega), fun u b => by rw [← hn]; exact str_bytS (hb.after b) d⟩
theorem RepV.mapV {w : World} {gt gm : Nat} {vl : Value} {L : List TR} {F : Nat → Prop} (h : RepV w gt gm vl L F) {k : Nat} (hk : k < L.length) : ∃ mb, (trAt L k).v = .map mb := by
  rcases h.own k hk with ⟨h, _⟩ | ⟨b, h, _⟩
  · exact ⟨_, h⟩
  · exact ⟨_, h⟩
set_option maxHeartbeats 2000000 in
theorem q9_Look (w : World) (gt gm : Nat) (T : TT) (F : Nat → Prop) (i : Int) (key : List Int) (B : Option Addr) (n d : Nat) (h : RepU w gt gm T F) (hT : T.length ≤ 1000) (hb : BytS w B key) (hob : OkB key) (hn : key.length = n) (hnd : n ≤ d) (hdm : d ≤ maxLen) :
    Calls Tryz.prog 158 #[.pointer (some ⟨gt, 0, none⟩), .int .i64 i, .slice B n d] w (Gives (.tuple #[.int .u64 (tLook T i key).1, .int .i64 (tLook T i key).2]) w) := by
  unfold tLook
  cases hm : tMay T i key
  · rw [if_neg Bool.false_ne_true]
    exact q9_Look_no w gt gm T F i key B n d h hn hnd hm
  · rw [if_pos rfl]
    obtain ⟨i0, i1, hq⟩ := may_yes hm
    obtain ⟨k, rfl⟩ : ∃ k : Nat, i = k := ⟨i.toNat, by omega⟩
    rw [Int.toNat_natCast] at hq ⊢
    have hsm := fun s => find_small h.ok (i := k) (by omega) (key := key) (s := s)
    have hok := h.ok
    obtain ⟨vl, L, rfl, hV, -⟩ := id h
    rw [trM_len] at i1 hT
    have hk : k < L.length := by omega
    rw [trM_at] at hq hsm ⊢
    have FI := Lib.hid (q9_find_yes w gt gm vl L F k key B n d h hV hk hn hnd (by omega))
    obtain ⟨mb, hmb⟩ := hV.mapV hk
    have SK := Lib.hid (hV.seeK (d := d) hok hk hmb hb hob hn (by omega))
    unfold kV at FI
    rw [hmb] at FI
    have AR : Hid (∀ s : Nat, s < 1024 → ∀ u, Calls Tryz.prog 98 #[.int .i64 (k : Int), .int .i64 (s : Int)] u (Gives (.int .i64 (tArea k s)) u)) := Lib.hid fun s hs u => q9_Area k s u (by omega) (by omega)
    have AT : Hid (∀ a u, Calls Tryz.prog 19 #[.int .i64 a, .int .i64 0] u (Gives (.int .u64 (atI a 0)) u)) := Lib.hid fun a u => c8_At a 0 u
    clear h hb hm hV hok hq hn hob hmb
    generalize (trAt L k).m.d.key = q at *
    generalize (trAt L k).m.d.hash = qh at *
    generalize (trAt L k).m.d.val = qv at *
    generalize (trAt L k).m.d.max = qm at *
    generalize (trAt L k).m.made = qd at *
    generalize (trAt L k).m.L = K at *
    cases hs : tFind K key with
    | none =>
      clear hsm
      dsimp only
      go_enter Tryz.func158, Tryz.ntmps158
      go_wp2_with fail
      refine (FI.out).mono ?_
      rintro e w1 ⟨rfl, b1⟩
      have V := Lib.hid (below_alloc b1 (.cells #[.bool qh, .int .i64 q, .int .i64 qv, .int .i64 qm, .map mb, .int .i64 qd] 117))
      have LK := SK.out.look _ V.out
      have ST := SK.out.str _ V.out
      clear b1
      rw [hs] at LK
      rw [show (((none : Option Nat).getD 0 : Nat) : Int) = 0 from rfl, show (none : Option Nat).isSome = false from rfl] at LK
      clear hs
      go_wp2_with fail
      go_ret2
      exact ⟨rfl, V.out⟩
    | some s =>
      have s1 := hsm s hs
      clear hsm
      have A1 := Lib.hid (AR.out s s1)
      have A2 := Lib.hid (AT.out (tArea k s))
      dsimp only
      generalize atI (tArea k s) 0 = at_ at *
      generalize tArea k s = ar at *
      go_enter Tryz.func158, Tryz.ntmps158
      go_wp2_with fail
      refine (FI.out).mono ?_
      rintro e w1 ⟨rfl, b1⟩
      have V := Lib.hid (below_alloc b1 (.cells #[.bool qh, .int .i64 q, .int .i64 qv, .int .i64 qm, .map mb, .int .i64 qd] 117))
      have LK := SK.out.look _ V.out
      have ST := SK.out.str _ V.out
      clear b1
      rw [hs] at LK
      rw [show (((some s : Option Nat).getD 0 : Nat) : Int) = (s : Int) from rfl, show (some s : Option Nat).isSome = true from rfl] at LK
      clear hs
      go_wp2_with fail
      refine (A1.out _).mono ?_
      rintro e w3 ⟨rfl, b3⟩
      replace V := Lib.hid (below_next' V.out b3)
      clear b3
      go_wp2_with fail
      refine (A2.out _).mono ?_
      rintro e w4 ⟨rfl, b4⟩
      replace V := Lib.hid (below_next' V.out b4)
      clear b4
      go_wp2_with fail
      go_ret2
      exact ⟨rfl, V.out⟩
theorem nodup_le {α : Type} {l m : List α} (h : l.Nodup) (hs : ∀ x ∈ l, x ∈ m) : l.length ≤ m.length := by
  classical
  induction l generalizing m with
  | nil => simp
  | cons a l ih =>
    obtain ⟨h1, h2⟩ := List.nodup_cons.1 h
    have ha : a ∈ m := hs a (List.mem_cons_self ..)
    have := ih (m := m.erase a) h2 (fun x hx => (List.mem_erase_of_ne (fun e => h1 (by rw [← e]; exact hx))).2 (hs x (List.mem_cons_of_mem _ hx)))
    rw [List.length_erase_of_mem ha] at this
    have : 0 < m.length := List.length_pos_of_mem ha
    simp only [List.length_cons]
    omega
theorem kLit_inj {a b : List Int} (ha : OkB a) (hb : OkB b) (h : kLit a = kLit b) : a = b := by
  unfold kLit at h
  simp only [Lit.string.injEq] at h
  have := eq_str ha hb
  rw [h] at this
  simpa using this
structure KOk (K : List TK) : Prop where
  byt : ∀ x ∈ K, OkB x.k
  rise : K.Pairwise fun x y => kLt x.k y.k = true
theorem TM.ok.kok {m : TM} (h : m.ok) : KOk m.L := ⟨fun x hx => (h.keys x hx).1, h.rise⟩
theorem kok_nodup {K : List TK} (h : KOk K) : (K.map fun x => (strOfNums x.k).toList).Nodup := by
  obtain ⟨h1, h2⟩ := h
  induction K with
  | nil => exact List.nodup_nil
  | cons x K ih =>
    obtain ⟨h3, h4⟩ := List.pairwise_cons.1 h2
    rw [List.map_cons, List.nodup_cons]
    refine ⟨fun hm => ?_, ih (fun y hy => h1 y (List.mem_cons_of_mem _ hy)) h4⟩
    obtain ⟨y, hy, e⟩ := List.mem_map.1 hm
    have := eq_str (h1 y (List.mem_cons_of_mem _ hy)) (h1 x (List.mem_cons_self ..))
    rw [e] at this
    simp only [beq_self_eq_true] at this
    have e2 : y.k = x.k := by simpa using this
    exact kLt_ne (h3 y hy) e2.symm
theorem str_some {K : List TK} {kl : Lit} (h : (strM K kl).isSome = true) : ∃ x ∈ K, kl = kLit x.k := by
  unfold strM at h
  split at h
  · rename_i s
    cases hf : K.find? (fun x => (strOfNums x.k).toList == s) with
    | none => rw [hf] at h; cases h
    | some x =>
      refine ⟨x, List.mem_of_find?_eq_some hf, ?_⟩
      have := List.find?_some hf
      simp only [beq_iff_eq] at this
      unfold kLit
      rw [this]
  · cases h
theorem str_mem {K : List TK} {x : TK} (hx : x ∈ K) : (strM K (kLit x.k)).isSome = true := by
  unfold strM kLit
  simp only [Option.isSome_map, List.find?_isSome]
  exact ⟨x, hx, by simp⟩
theorem mapIs_size {w : World} {b n : Nat} {K : List TK} (h : MapIs Tryz.prog 9 w b n (strM K)) (hK : KOk K) :
    ∃ D, w.ownsMap Tryz.prog 9 rawElem b n D ∧ Maps.size D = K.length ∧ ∀ kl, WideAt.IsKeyLit kl → Maps.has D kl = (strM K kl).isSome ∧ ∀ z, D.atKey kl z = (strM K kl).elim z .held := by
  obtain ⟨D, ho, hm⟩ := h
  refine ⟨D, ho, ?_, hm⟩
  obtain ⟨es, rfl, hp, hk⟩ := ho.entries strK
  show es.length = K.length
  have hn : (es.map (·.1)).Nodup := by
    rw [List.nodup_iff_pairwise_ne, List.pairwise_map]
    exact hp
  have hkn : (K.map fun x => kLit x.k).Nodup := by
    have h1 := kok_nodup hK
    rw [List.nodup_iff_pairwise_ne, List.pairwise_map] at h1 ⊢
    exact h1.imp fun hne e => hne (by unfold kLit at e; simpa using e)
  have i1 : ∀ x ∈ es.map (·.1), x ∈ K.map fun x => kLit x.k := fun x hx => by
    obtain ⟨p, hp, rfl⟩ := List.mem_map.1 hx
    have h1 : Maps.has (DataW.map es) p.1 = true := List.any_eq_true.2 ⟨p, hp, WideAt.sameKey_self (hk p hp)⟩
    rw [(hm p.1 (hk p hp)).1] at h1
    obtain ⟨y, hy, e⟩ := str_some h1
    exact List.mem_map.2 ⟨y, hy, e.symm⟩
  have i2 : ∀ x ∈ K.map (fun x => kLit x.k), x ∈ es.map (·.1) := fun x hx => by
    obtain ⟨y, hy, rfl⟩ := List.mem_map.1 hx
    have h1 := str_mem hy
    rw [← (hm (kLit y.k) trivial).1] at h1
    obtain ⟨p, hp, e⟩ := List.any_eq_true.1 h1
    exact List.mem_map.2 ⟨p, hp, WideAt.sameKey_eq e⟩
  have l1 := nodup_le hn i1
  have l2 := nodup_le hkn i2
  simp only [List.length_map] at l1 l2
  omega
theorem mapIs_tight {w : World} {b n : Nat} {K : List TK} (h : MapIs Tryz.prog 9 w b n (strM K)) (hK : KOk K) : MapIs Tryz.prog 9 w b K.length (strM K) := by
  obtain ⟨D, ho, hs, hm⟩ := mapIs_size h hK
  refine ⟨D, ?_, hm⟩
  obtain ⟨es, clock, hb, F, hn, rfl⟩ := ho
  refine ⟨es, clock, hb, F, ?_, rfl⟩
  have : Maps.size (DataW.map ((es.toList.map (WideElems.rg Tryz.prog 9 rawElem)).foldr DataW.insert [])) = es.size := by simp [Maps.size, length_sorted]
  omega
theorem SlotR.len {w : World} {mb : Option Nat} {K : List TK} (h : SlotR w (.map mb) K) (hK : KOk K) (ty : TypeId) : (Builtin.len_ #[115] ty #[.map mb]).run Tryz.prog w = .ok (.int .i64 (K.length : Int)) w := by
  rcases h with ⟨e, rfl⟩ | ⟨b, e, h⟩
  · cases e
    exact Maps.len_nil Tryz.underlying115 ty
  · cases e
    obtain ⟨D, ho, hs, -⟩ := mapIs_size h hK
    rw [ho.len Tryz.underlying115 ty, hs]
def MapQ (gt gm : Nat) (F : Nat → Prop) (T : TT) (v : Value) (w : World) (e : Ending) (w' : World) : Prop :=
  e = .returned v ∧ ∃ F', RepU w' gt gm T F' ∧ Turn F w w' ∧ ∀ x, F' x → F x ∨ w.heap.size ≤ x
theorem mapQ_same {w w' : World} {gt gm : Nat} {T : TT} {F : Nat → Prop} {v : Value} (h : RepU w gt gm T F) (b : Below w.heap.size w w') : MapQ gt gm F T v w (.returned v) w' :=
  ⟨rfl, F, h.after b, Turn.of_below b, fun x hx => .inl hx⟩
theorem drop_done {w u u' : World} {gt gm k b : Nat} {vl : Value} {L : List TR} {F : Nat → Prop} {key : List Int} (hF : TFull (trM L)) (h : RepV w gt gm vl L F) (hv : ∀ j, j < L.length → (trAt L j).v ≠ .map none) (hk : k < L.length) (hmb : (trAt L k).v = .map (some b)) (hob : OkB key) (hh : (trAt L k).m.d.hash = true)
    (V : Below w.heap.size w u) (hm : MapIs Tryz.prog 9 u' b (trAt L k).m.L.length (putM (strM (trAt L k).m.L) (kLit key) none)) (hg : u.grownBy u' (some b)) :
    MapQ gt gm F ((trM L).set k ⟨(trAt L k).m.d, leftK (trAt L k).m.L key, (trAt L k).m.made⟩) (.tuple #[.int .u64 0, .int .i64 0]) w (.returned (.tuple #[.int .u64 0, .int .i64 0])) u' := by
  have hok := hF.ok k (by rw [trM_len]; exact hk)
  rw [trM_at] at hok
  have hFb : F b := h.footK (k := k) (by rw [hmb]; rfl)
  have hL : trC (L.set k ⟨⟨(trAt L k).m.d, leftK (trAt L k).m.L key, (trAt L k).m.made⟩, (trAt L k).v⟩) = trC L := by
    rw [trC_set4 hk]
    apply List.ext_getElem?
    intro j
    rw [List.getElem?_set]
    by_cases e : k * 6 + 4 = j
    · rw [if_pos e, if_pos (by rw [trC_len]; omega), ← e, trC_at L k 4 hk (by omega)]; rfl
    · rw [if_neg e]
  have hsame : ∀ x, F x → x ≠ b → u'.heap[x]? = w.heap[x]? := fun x hx hne => (hg.block x (Nat.lt_of_lt_of_le (h.lt hx) V.size) (by simpa using hne)).trans (V.block x (h.lt hx))
  have hbr : vl.ownBlock ≠ some b := fun e => by
    have := h.apart 1 (k + 2) b e (by rw [qBlk_k, hmb]; rfl)
    omega
  obtain ⟨F', hR, hF'⟩ := h.put (r := ⟨⟨(trAt L k).m.d, leftK (trAt L k).m.L key, (trAt L k).m.made⟩, (trAt L k).v⟩) (u := u') hk
    (fun x hx _ hne => hsame x hx (fun e => hne (by rw [hmb, e]; rfl)))
    (by rw [hL]; exact own_same h.row (fun x hx => hsame x (h.foot1 hx) (fun e => hbr (by rw [← e]; exact hx))))
    (by
      show SlotR u' (trAt L k).v (leftK (trAt L k).m.L key)
      rw [hmb]
      exact .inr ⟨b, rfl, mapIs_tight (hm.eq fun kl _ => str_drop (fun x hx => (hok.keys x hx).1) hob kl) (leftK_ok hok key).kok⟩)
    (.inl rfl)
  refine ⟨rfl, F', ⟨vl, _, ?_, hR, ⟨fun j hj => ?_, fun j hj hj2 => ?_⟩, fun j hj => ?_⟩, (Turn.of_below V).trans (G := fun x => x = b) ⟨hg.os, hg.tape, hg.output, hg.size, fun x hx hne => hg.block x hx (by simpa using hne)⟩ (fun x hx => .inl (by rw [hx]; exact hFb)), hF'⟩
  · unfold trM; rw [List.map_set]
  · rw [List.length_set, trM_len] at hj
    rw [mt_set (by rw [trM_len]; exact hk)]
    by_cases e : j = k
    · rw [if_pos e]; exact leftK_ok hok key
    · rw [if_neg e]; exact hF.ok j (by rw [trM_len]; exact hj)
  · rw [List.length_set, trM_len] at hj
    rw [mt_set (by rw [trM_len]; exact hk)] at hj2 ⊢
    by_cases e : j = k
    · rw [if_pos e] at hj2
      simp only at hj2
      rw [hh] at hj2
      cases hj2
    · rw [if_neg e] at hj2 ⊢; exact hF.full j (by rw [trM_len]; exact hj) hj2
  · rw [List.length_set] at hj
    rw [trAt_set hk]
    by_cases e : j = k
    · rw [if_pos e]; exact hv k hk
    · rw [if_neg e]; exact hv j hj
end Go.Proofs.YtlbhffdpklbhfaaGreat
