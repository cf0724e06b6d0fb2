/-
  Texts, one behind the other: TabNew, Tab12, Ref09q.
  Conditions: those that each theorem states.
-/
import Derived.Test.YtfniahmfoigceaaGreatPz2
import Derived.Test.YtfniahmfoigceaaGreatPz15
import Derived.Test.YtfniahmfoigceaaGreatPz8
import Derived.Deep.RegionHeld
import Derived.Deep.RegionHeld3
import Derived.Deep.DeepCutAuto
import Derived.Maps.AppendAt
import Derived.Deep.RegionLaw
import Derived.LoopTactic
import Derived.Laws.AppendOwn
import Derived.Lib.AppendZeros
import Derived.Test.YtfniahmfoigceaaGreatPz6

namespace Go.Proofs.YtfniahmfoigceaaGreat
open Go Go.RowKit
set_option maxRecDepth 100000
set_option linter.unusedVariables false
set_option linter.unusedSimpArgs false

/-- A number's key. -/
def numK (k : Nat) : TK := ⟨[(k : Int), 0, 0, 0], k⟩
theorem numL_succ (n : Nat) : numL (n + 1) = numL n ++ [numK n] := by
  unfold numL
  rw [List.range_succ, List.map_append]
  rfl
theorem numL_len (n : Nat) : (numL n).length = n := by simp [numL]
theorem numL_mem {n : Nat} {x : TK} (h : x ∈ numL n) : ∃ k, k < n ∧ x = numK k := by
  unfold numL at h
  obtain ⟨k, hk, rfl⟩ := List.mem_map.mp h
  exact ⟨k, List.mem_range.mp hk, rfl⟩
theorem okB_num {k : Nat} (h : k ≤ 255) : OkB [(k : Int), 0, 0, 0] := by
  intro j hj
  match j, hj with
  | 0, _ => exact ⟨Int.natCast_nonneg _, by show (k : Int) ≤ 255; omega⟩
  | 1, _ => exact ⟨by show (0 : Int) ≤ 0; omega, by show (0 : Int) ≤ 255; omega⟩
  | 2, _ => exact ⟨by show (0 : Int) ≤ 0; omega, by show (0 : Int) ≤ 255; omega⟩
  | 3, _ => exact ⟨by show (0 : Int) ≤ 0; omega, by show (0 : Int) ≤ 255; omega⟩
theorem numL_rise (n : Nat) : (numL n).Pairwise fun x y => kLt x.k y.k = true := by
  unfold numL
  rw [List.pairwise_map]
  refine List.pairwise_lt_range.imp ?_
  intro a b h
  show (decide ((a : Int) < (b : Int)) || _) = true
  rw [decide_eq_true (by omega : (a : Int) < (b : Int))]
  rfl
theorem good_at {d : Df} (h : d.good = true) : 1 ≤ d.key ∧ d.key ≤ 16 ∧ 8 ≤ d.val ∧ d.val ≤ 64 ∧ 1 ≤ d.max ∧ d.max ≤ 16 ∧ (d.hash = false → d.key = 4) := by
  unfold Df.good at h
  simp only [Bool.and_eq_true, decide_eq_true_eq] at h
  obtain ⟨⟨⟨⟨⟨h1, h2⟩, h3⟩, h4⟩, h5⟩, h6⟩ := h
  cases hh : d.hash
  · rw [hh] at h1
    have : d.key = 4 := by simpa using h1
    exact ⟨by omega, by omega, h2, h3, h5, h6, fun _ => this⟩
  · rw [hh] at h1
    simp only [if_true, Bool.and_eq_true, decide_eq_true_eq] at h1
    exact ⟨h1.1, h1.2, h2, h3, h5, h6, fun e => absurd e (by simp)⟩
/-- A new map of bytes, a new map of numbers. -/
theorem ok_hash {d : Df} (h : d.good = true) : TM.ok ⟨d, [], 0⟩ :=
  ⟨h, fun x hx => absurd hx (by simp), List.Pairwise.nil, by have := (good_at h).2.2.2.2.1; show ((0 : Nat) : Int) ≤ d.max; omega, by show 0 ≤ 1024; omega⟩
theorem ok_num {d : Df} (h : d.good = true) (hh : d.hash = false) : TM.ok ⟨d, numL d.max.toNat, d.max.toNat⟩ := by
  obtain ⟨_, _, _, _, m1, m2, hk⟩ := good_at h
  refine ⟨h, fun x hx => ?_, numL_rise _, ?_, ?_⟩
  · obtain ⟨k, hlt, rfl⟩ := numL_mem hx
    exact ⟨okB_num (by omega), by show ((4 : Nat) : Int) = d.key; rw [hk hh]; rfl, hlt⟩
  · show ((numL d.max.toNat).length : Int) ≤ d.max
    rw [numL_len]; omega
  · show d.max.toNat ≤ 1024; omega
/-- One value's area, and the next one's. -/
theorem tSlots_next {M : PM} {i v k n : Nat} (h : k < n) (e : (pMake M (tArea i k) (List.replicate v 0) false false).2 = 0) : tSlots M i v k (n - k) = tSlots (pMake M (tArea i k) (List.replicate v 0) false false).1 i v (k + 1) (n - (k + 1)) := by
  rw [show n - k = (n - (k + 1)) + 1 by omega]
  exact if_pos e
theorem tSlots_no {M : PM} {i v k n : Nat} (h : k < n) (e : ¬ (pMake M (tArea i k) (List.replicate v 0) false false).2 = 0) : tSlots M i v k (n - k) = ((pMake M (tArea i k) (List.replicate v 0) false false).1, false) := by
  rw [show n - k = (n - (k + 1)) + 1 by omega]
  exact if_neg e
theorem tSlots_end {M : PM} {i v n : Nat} : tSlots M i v n (n - n) = (M, true) := by rw [Nat.sub_self]; rfl
theorem df_drop {l : List Df} {j : Nat} (h : j < l.length) : l.drop j = l.getD j Df.zero :: l.drop (j + 1) := by
  rw [List.drop_eq_getElem_cons h, List.getD_eq_getElem?_getD, List.getElem?_eq_getElem h]
  rfl
/-- One map, and the next one. -/
theorem tNewG_hash {l : List Df} {j : Nat} {M : PM} {T : TT} (h : j < l.length) (hh : (l.getD j Df.zero).hash = true) : tNewG j (l.drop j) M T = tNewG (j + 1) (l.drop (j + 1)) M (T ++ [⟨l.getD j Df.zero, [], 0⟩]) := by
  rw [df_drop h]
  exact if_pos hh
theorem tNewG_num {l : List Df} {j : Nat} {M : PM} {T : TT} (h : j < l.length) (hh : (l.getD j Df.zero).hash = false) : tNewG j (l.drop j) M T =
    (if (tSlots M j (l.getD j Df.zero).val.toNat 0 (l.getD j Df.zero).max.toNat).2 then tNewG (j + 1) (l.drop (j + 1)) (tSlots M j (l.getD j Df.zero).val.toNat 0 (l.getD j Df.zero).max.toNat).1 (T ++ [⟨l.getD j Df.zero, numL (l.getD j Df.zero).max.toNat, (l.getD j Df.zero).max.toNat⟩])
      else ((tSlots M j (l.getD j Df.zero).val.toNat 0 (l.getD j Df.zero).max.toNat).1, none)) := by
  rw [df_drop h]
  exact if_neg (by rw [hh]; simp)
theorem tNewG_end {l : List Df} {j : Nat} {M : PM} {T : TT} (h : l.length ≤ j) : tNewG j (l.drop j) M T = (M, some T) := by
  rw [List.drop_of_length_le h]
  rfl

end Go.Proofs.YtfniahmfoigceaaGreat

namespace Go.Proofs.YtfniahmfoigceaaGreat
open Go.RowKit
set_option maxRecDepth 100000
set_option linter.unusedVariables false
set_option linter.unusedSimpArgs false

theorem RawN.trans {w u u' : World} {gt gm : Nat} {vl : Value} {L L2 : List TR} {M M2 : PM} {F G F' G' F2 G2 : Nat → Prop} (h : RawN w gt gm vl L M F G u F' G') (k : RawN u gt gm vl L2 M2 F' G' u' F2 G2) : RawN w gt gm vl L2 M2 F G u' F2 G2 := by
  have hs := h.turn.size
  refine ⟨k.rep, h.turn.trans k.turn (fun x hx => ?_), fun x hx => ?_, fun x hx => ?_⟩
  · rcases hx with c | c
    · exact (h.footF x c).imp .inl id
    · exact (h.footG x c).imp .inr id
  · rcases k.footF x hx with c | c
    · exact h.footF x c
    · exact .inr (by omega)
  · rcases k.footG x hx with c | c
    · exact h.footG x c
    · exact .inr (by omega)
theorem RawN.before {w0 w u : World} {gt gm : Nat} {vl : Value} {L : List TR} {M : PM} {F G F' G' : Nat → Prop} (h : RawN w gt gm vl L M F G u F' G') (b : Below w0.heap.size w0 w) : RawN w0 gt gm vl L M F G u F' G' := by
  have := b.size
  exact ⟨h.rep, (Turn.of_below b).trans h.turn (fun x hx => .inl hx), fun x hx => (h.footF x hx).imp id (fun c => by omega), fun x hx => (h.footG x hx).imp id (fun c => by omega)⟩
theorem find_num {j : Nat} : tFind (numL j) [(j : Int), 0, 0, 0] = none := by
  unfold tFind
  rw [Option.map_eq_none_iff, List.find?_eq_none]
  intro x hx
  obtain ⟨k, hk, rfl⟩ := numL_mem hx
  simp [numK]
  omega
theorem tIns_num (j : Nat) : tIns (numL j) ⟨[(j : Int), 0, 0, 0], j⟩ = numL (j + 1) := by
  have h : ∀ x ∈ numL j, kLt x.k [(j : Int), 0, 0, 0] = true := fun x hx => by
    obtain ⟨k, hk, rfl⟩ := numL_mem hx
    simp [numK, kLt]
    omega
  unfold tIns
  rw [numL_succ]
  have e1 : ∀ (l : List TK) (p : TK → Bool), (∀ x ∈ l, p x = true) → l.takeWhile p = l ∧ l.dropWhile p = [] := fun l p hp => by
    induction l with
    | nil => exact ⟨rfl, rfl⟩
    | cons a l ih =>
      obtain ⟨i1, i2⟩ := ih (fun x hx => hp x (List.mem_cons_of_mem _ hx))
      have ha := hp a (List.mem_cons_self ..)
      rw [List.takeWhile_cons, ha, List.dropWhile_cons, ha]
      simp [i1, i2]
  obtain ⟨i1, i2⟩ := e1 (numL j) (fun y => kLt y.k [(j : Int), 0, 0, 0]) h
  rw [i1, i2]
  rfl
theorem kok_num {j : Nat} (h : j ≤ 200) : KOk (numL j) := ⟨fun x hx => by
  obtain ⟨k, hk, rfl⟩ := numL_mem hx
  exact okB_num (by omega), numL_rise j⟩
theorem pMake_more (M : PM) (i : Int) (b : List Int) (bl fx : Bool) : (pMake M i b bl fx).1.length ≤ M.length + 1 := by
  unfold pMake
  split
  · simp
  · split
    · simp
    · simp
/-- A map of numbers, of which j are there. -/
def numR (d : Df) (j mb : Nat) : TR := ⟨⟨d, numL j, j⟩, .map (some mb)⟩

/-- Whether all of a map's numbers are there; maps and memory have become other ones. -/
def NumW (gt gm : Nat) (vl : Value) (F G : Nat → Prop) (Lx : List TR) (r : PM × Bool) (w : World) (e : Ending) (w' : World) : Prop :=
  e = .returned (.bool r.2) ∧ ∃ L' F' G', RawN w gt gm vl L' r.1 F G w' F' G' ∧ (r.2 = true → L' = Lx)
set_option maxHeartbeats 4000000 in
theorem q9_number (w : World) (gt gm : Nat) (vl : Value) (L : List TR) (M : PM) (F G : Nat → Prop) (k mb : Nat) (d : Df) (h : RawD w gt gm vl L M F G) (hk : k < L.length) (hk1 : L.length ≤ 1000) (hat : trAt L k = numR d 0 mb) (hg : d.good = true) (hh : d.hash = false) (hM : M.length ≤ 50000) :
    Calls Tryz.prog 51 #[.pointer (some ⟨gt, 0, none⟩), .int .i64 (k : Int)] w
      (NumW gt gm vl F G (L.set k (numR d d.max.toNat mb)) (tSlots M k d.val.toNat 0 d.max.toNat) w) := by
  obtain ⟨g1, g2, g3, g4, g5, g6, g7⟩ := good_at hg
  obtain ⟨gl, cl, hvl, k1, k2, hgl, e0, e1, e2, e3, e4, e5⟩ := h.maps.at_ hk
  obtain ⟨c0, c1⟩ := h.maps.cells
  rw [hvl] at c1
  rw [hat] at e0 e1 e2 e3
  have hL0 : L.set k (numR d 0 mb) = L := by
    apply List.ext_getElem?
    intro j
    rw [List.getElem?_set]
    by_cases e : k = j
    · subst e
      rw [if_pos rfl, if_pos hk, ← hat]
      unfold trAt
      rw [List.getD_eq_getElem?_getD, List.getElem?_eq_getElem hk]
      rfl
    · rw [if_neg e]
  obtain ⟨n, hn⟩ : ∃ n : Nat, d.max = n := ⟨d.max.toNat, by omega⟩
  obtain ⟨nv, hnv⟩ : ∃ n : Nat, d.val = n := ⟨d.val.toNat, by omega⟩
  rw [show (numR d 0 mb).m.d = d from rfl] at e0 e1 e2 e3
  rw [hn] at e3 g5 g6 ⊢
  rw [hnv] at e2 g3 g4 ⊢
  rw [Int.toNat_natCast, Int.toNat_natCast]
  unfold maxLen at k2
  have k0 : (0 : Int) ≤ k := by omega
  have k3 : (k : Int) < L.length := by omega
  have B0 := below_alloc (Below.refl w.heap.size w) (.cells #[.bool d.hash, .int .i64 d.key, .int .i64 (nv : Int), .int .i64 (n : Int)] 75)
  have Q0 : Hid (RawN (w.alloc (.cells #[.bool d.hash, .int .i64 d.key, .int .i64 (nv : Int), .int .i64 (n : Int)] 75)) gt gm vl (L.set k (numR d 0 mb)) M F G (w.alloc (.cells #[.bool d.hash, .int .i64 d.key, .int .i64 (nv : Int), .int .i64 (n : Int)] 75)) F G) := Lib.hid (by
    rw [hL0]
    exact ⟨h.after B0, Turn.refl _ _, fun x hx => .inl hx, fun x hx => .inl hx⟩)
  have HV : Hid (Blk w.heap.size #[.bool d.hash, .int .i64 d.key, .int .i64 (nv : Int), .int .i64 (n : Int)] 75 (w.alloc (.cells #[.bool d.hash, .int .i64 d.key, .int .i64 (nv : Int), .int .i64 (n : Int)] 75))) := Lib.hid (Blk.new w _ _ rfl)
  have HO : Hid (¬ (F w.heap.size ∨ G w.heap.size)) := Lib.hid (by
    rintro (c | c)
    · have := h.maps.lt c; omega
    · have := h.mem.lt c; omega)
  have BB := Lib.hid B0
  have HS : Hid (∀ u, Turn (fun x => F x ∨ G x) (w.alloc (.cells #[.bool d.hash, .int .i64 d.key, .int .i64 (nv : Int), .int .i64 (n : Int)] 75)) u → Blk w.heap.size #[.bool d.hash, .int .i64 d.key, .int .i64 (nv : Int), .int .i64 (n : Int)] 75 u) := Lib.hid fun u t => Blk.same HV.out (t.block _ HV.out.lt HO.out)
  have AD : Hid (∀ (u : World) (M' : PM) (F' G' : Nat → Prop) (j : Nat) (B C : Nat), j < n → M'.length ≤ 60000 → RawD u gt gm vl (L.set k (numR d j mb)) M' F' G' → BytS u (some ⟨B, 0, none⟩) [(j : Int), 0, 0, 0] → BytS u (some ⟨C, 0, none⟩) (List.replicate nv 0) → ¬ (F' B ∨ G' B) → ¬ (F' C ∨ G' C) →
      Calls Tryz.prog 96 #[.pointer (some ⟨gt, 0, none⟩), .int .i64 (k : Int), .slice (some ⟨B, 0, none⟩) 4 4, .slice (some ⟨C, 0, none⟩) nv nv] u (fun e u' => if (pMake M' (tArea k j) (List.replicate nv 0) false false).2 = 0 then AddW gt gm vl F' G' (L.set k (numR d (j + 1) mb)) (pMake M' (tArea k j) (List.replicate nv 0) false false).1 (.bool true) u e u' else AddW gt gm vl F' G' (L.set k (numR d j mb)) M' (.bool false) u e u')) := Lib.hid fun u M' F' G' j B C hj hM' hr hb hc hB hC => by
    have hkl : k < (L.set k (numR d j mb)).length := by rw [List.length_set]; exact hk
    have ht : trAt (L.set k (numR d j mb)) k = numR d j mb := by rw [trAt_set hk, if_pos rfl]
    have hA := q9_add u gt gm vl (L.set k (numR d j mb)) M' F' G' k [(j : Int), 0, 0, 0] (List.replicate nv 0) (some ⟨B, 0, none⟩) (some ⟨C, 0, none⟩) 4 4 nv nv hr hkl (by rw [List.length_set]; exact hk1) mb (by rw [ht]; rfl) (by rw [ht]; exact kok_num (by omega)) (by rw [ht]; exact find_num) (by rw [ht]; show (numL j).length ≤ 1000; rw [numL_len]; omega) (by rw [ht]; show j ≤ 1024; omega)
      (keep_of hb (fun g o e => by cases e; exact hB)) (okB_num (by omega)) rfl (by omega) (by unfold maxLen; omega) (keep_of hc (fun g o e => by cases e; exact hC)) (okB_zeros nv) (by simp) (by omega) (by unfold maxLen; omega) (by omega)
    refine hA.mono fun e u' hw => ?_
    rw [ht] at hw
    rw [show (numR d j mb).m.made = j from rfl, if_neg (by omega)] at hw
    by_cases hp : (pMake M' (tArea k j) (List.replicate nv 0) false false).2 = 0
    · rw [if_pos hp] at hw ⊢
      rw [show (numR d j mb).m.L = numL j from rfl, show (numR d j mb).m.d = d from rfl, tIns_num, List.set_set] at hw
      exact hw
    · rw [if_neg hp] at hw ⊢
      exact hw
  clear h hat hL0 hvl e4 e5 hk B0 HV HO
  generalize d.key = dk at *
  generalize d.hash = dh at *
  obtain rfl : dh = false := hh
  obtain rfl : dk = 4 := g7 rfl
  clear g7
  generalize hw1 : w.alloc (.cells #[.bool false, .int .i64 4, .int .i64 (nv : Int), .int .i64 (n : Int)] 75) = w1 at *
  have HW := Lib.hid hw1
  clear hw1
  go_enter Tryz.func51, Tryz.ntmps51
  go_wp2_with fail
  rw [HW.out]
  go_loopw [17] (fun iv wr => ∃ (j : Nat) (M' : PM) (F' G' : Nat → Prop), iv = .int .i64 j ∧ j ≤ n ∧ Hid (tSlots M' k nv j (n - j) = tSlots M k nv 0 n) ∧ Hid (M'.length ≤ M.length + j) ∧ Hid (RawN w1 gt gm vl (L.set k (numR d j mb)) M' F G wr F' G')) (fun iv wr => n - (intOf iv).toNat)
  case atStart => exact ⟨0, M, F, G, rfl, by omega, Lib.hid rfl, Lib.hid (by omega), Q0⟩
  case round =>
    obtain ⟨j, M', F', G', rfl, hj, HE, HML, Q⟩ := hrel
    have j0 : (0 : Int) ≤ j := by omega
    clear Q0
    by_cases hlt : (j : Int) < n
    · have hjn : j < n := by omega
      have hwj : IntKind.u8.wrap (j : Int) = j := by rw [IntKind.wrap_u8]; omega
      have HB := HS.out wr Q.out.turn
      have v2 := cell_alloc (Blk.cell HB 2) (.cells #[.int .u8 (j : Int), .int .u8 0, .int .u8 0, .int .u8 0] 5)
      have hm := make_bytes (wr.alloc (.cells #[.int .u8 (j : Int), .int .u8 0, .int .u8 0, .int .u8 0] 5)) nv (by omega)
      have bk := below_alloc (Below.refl wr.heap.size wr) (.cells #[.int .u8 (j : Int), .int .u8 0, .int .u8 0, .int .u8 0] 5)
      have Bk : Blk wr.heap.size #[.int .u8 (j : Int), .int .u8 0, .int .u8 0, .int .u8 0] 5 (wr.alloc (.cells #[.int .u8 (j : Int), .int .u8 0, .int .u8 0, .int .u8 0] 5)) := Blk.new wr _ _ rfl
      have hsk : (wr.alloc (.cells #[.int .u8 (j : Int), .int .u8 0, .int .u8 0, .int .u8 0] 5)).heap.size = wr.heap.size + 1 := by simp
      have bv := below_alloc (Below.refl _ (wr.alloc (.cells #[.int .u8 (j : Int), .int .u8 0, .int .u8 0, .int .u8 0] 5))) (.cells (byC (List.replicate nv 0)).toArray 5)
      have Bv : Blk (wr.heap.size + 1) (byC (List.replicate nv 0)).toArray 5 ((wr.alloc (.cells #[.int .u8 (j : Int), .int .u8 0, .int .u8 0, .int .u8 0] 5)).alloc (.cells (byC (List.replicate nv 0)).toArray 5)) := Blk.new _ _ _ hsk.symm
      have Qv := Lib.hid ((Q.out.after bk).after bv)
      have hF' : ∀ x, F' x → x < wr.heap.size := fun x hx => Q.out.rep.maps.lt hx
      have hG' : ∀ x, G' x → x < wr.heap.size := fun x hx => Q.out.rep.mem.lt hx
      have A2 := AD.out _ M' F' G' j wr.heap.size (wr.heap.size + 1) hjn (by have := HML.out; omega) Qv.out.rep
        (fun _ => ⟨wr.heap.size, 0, rfl, (Bk.after bv).lt, fun t ht => by
          have h4 : t < 4 := by simpa using ht
          rw [(Bk.after bv).cell]
          have : t = 0 ∨ t = 1 ∨ t = 2 ∨ t = 3 := by omega
          rcases this with rfl | rfl | rfl | rfl <;> rfl⟩)
        (fun _ => ⟨wr.heap.size + 1, 0, rfl, Bv.lt, fun t ht => by
          rw [Bv.cell, Nat.zero_add, List.getElem?_toArray, byC_at _ ht]⟩)
        (by rintro (c | c); (have := hF' _ c; omega); (have := hG' _ c; omega)) (by rintro (c | c); (have := hF' _ c; omega); (have := hG' _ c; omega))
      have A3 := Lib.hid A2
      clear A2 Bk Bv bk bv hF' hG' HB hsk
      have NX := Lib.hid fun he => (tSlots_next (M := M') (i := k) (v := nv) hjn he).symm.trans HE.out
      have NO := Lib.hid fun he => (tSlots_no (M := M') (i := k) (v := nv) hjn he).symm.trans HE.out
      have ML := Lib.hid (pMake_more M' (tArea k j) (List.replicate nv 0) false false)
      by_cases hp : (pMake M' (tArea k j) (List.replicate nv 0) false false).2 = 0
      · simp only [if_pos hp] at A3
        replace NX := Lib.hid (NX.out hp)
        clear NO hp HE
        generalize (pMake M' (tArea k j) (List.replicate nv 0) false false).1 = M2 at *
        go_wp2_with fail
        refine (A3.out).mono ?_
        rintro e w3 ⟨rfl, F2, G2, q3⟩
        have Q3 := Lib.hid (Qv.out.trans q3)
        clear q3 A3 Qv hm v2
        go_wp2_with fail
        go_round
        case rel => exact ⟨j + 1, M2, F2, G2, by go_num, by omega, NX, Lib.hid (by have h1 := ML.out; have h2 := HML.out; omega), Q3⟩
        case measure => simp [intOf]; omega
      · simp only [if_neg hp] at A3
        replace NO := Lib.hid (NO.out hp)
        have hMM := pMake_err M' (tArea k j) (List.replicate nv 0) false false hp
        rw [hMM] at NO
        clear NX hp HE ML hMM
        go_wp2_with fail
        refine (A3.out).mono ?_
        rintro e w3 ⟨rfl, F2, G2, q3⟩
        have Q3 := Lib.hid (Qv.out.trans q3)
        clear q3 A3 Qv hm v2
        go_wp2_with fail
        go_ret
        rw [← NO.out]
        exact ⟨rfl, _, F2, G2, Q3.out.before BB.out, fun hc => by cases hc⟩
    · have hjn : j = n := by omega
      subst hjn
      have HE2 : Hid (tSlots M k nv 0 j = (M', true)) := Lib.hid (by rw [← HE.out]; exact tSlots_end)
      go_wp2_with fail
      go_ret
      rw [HE2.out]
      exact ⟨rfl, _, F', G', Q.out.before BB.out, fun _ => rfl⟩

end Go.Proofs.YtfniahmfoigceaaGreat

namespace Go.Proofs.YtfniahmfoigceaaGreat
open Go.RowKit
set_option maxRecDepth 100000
set_option linter.unusedVariables false
set_option linter.unusedSimpArgs false

/-- How many numbers a map has at first. -/
def nums (d : Df) : Nat := if d.hash then 0 else d.max.toNat
theorem nums_at {d : Df} (h : d.good = true) : nums d ≤ 16 ∧ (d.hash = true → nums d = 0) ∧ (d.hash = false → (nums d : Int) = d.max) := by
  have q := good_at h
  unfold nums
  cases hh : d.hash
  · exact ⟨by rw [if_neg Bool.false_ne_true]; omega, by simp, fun _ => by rw [if_neg Bool.false_ne_true]; omega⟩
  · exact ⟨by rw [if_pos rfl]; omega, fun _ => if_pos rfl, fun e => by cases e⟩
theorem ok_nums {d : Df} (h : d.good = true) : TM.ok ⟨d, numL (nums d), nums d⟩ := by
  cases hh : d.hash
  · have e : nums d = d.max.toNat := by unfold nums; rw [hh, if_neg Bool.false_ne_true]
    rw [e]; exact ok_num h hh
  · have e : nums d = 0 := by unfold nums; rw [hh, if_pos rfl]
    rw [e]; exact ok_hash h
theorem new_next {l : List Df} {j : Nat} {M M2 : PM} {T : TT} {d : Df} (h : j < l.length) (hd : l.getD j Df.zero = d) (hs : tSlots M j d.val.toNat 0 (nums d) = (M2, true)) : tNewG j (l.drop j) M T = tNewG (j + 1) (l.drop (j + 1)) M2 (T ++ [⟨d, numL (nums d), nums d⟩]) := by
  unfold nums at *
  cases hh : d.hash
  · rw [hh, if_neg Bool.false_ne_true] at hs
    rw [if_neg Bool.false_ne_true]
    rw [tNewG_num h (by rw [hd]; exact hh), hd, hs, if_pos rfl]
  · rw [hh, if_pos rfl] at hs
    rw [if_pos rfl]
    rw [tNewG_hash h (by rw [hd]; exact hh), hd]
    have : M = M2 := congrArg Prod.fst hs
    rw [this]
    rfl
theorem new_stop {l : List Df} {j : Nat} {M M2 : PM} {T : TT} {d : Df} (h : j < l.length) (hd : l.getD j Df.zero = d) (hh : d.hash = false) (hs : tSlots M j d.val.toNat 0 (nums d) = (M2, false)) : tNewG j (l.drop j) M T = (M2, none) := by
  unfold nums at hs
  rw [hh, if_neg Bool.false_ne_true] at hs
  rw [tNewG_num h (by rw [hd]; exact hh), hd, hs, if_neg Bool.false_ne_true]
end Go.Proofs.YtfniahmfoigceaaGreat
