/-
  Layer 8's own Make.
  Conditions: the numbers fit their kinds; few areas.
-/
import Derived.Test.YtempkpfcjonaaaaRef08e
import Derived.Test.YtempkpfcjonaaaaRef08s
import Derived.Deep.RegionLaw
namespace Go.Proofs.Ytempkpfcjonaaaa
open Go.RowKit
set_option linter.unusedVariables false
set_option linter.unusedSimpArgs false

set_option maxRecDepth 100000 in
set_option maxHeartbeats 2000000 in
theorem r8_Make_arg (w : World) (g : Nat) (M : PM) (F : Nat → Prop) (i : Int) (B : Option Addr) (n d : Nat) (bl fx : Bool) (h : RepR w g M F) (hi : i < 1 ∨ 2147483648 ≤ i ∨ (pIx M i).isSome = true) :
    Calls Try.prog 31 #[.pointer (some ⟨g, 0, none⟩), .int .i64 i, .slice B n d, .bool bl, .bool fx] w (MemW RepR g F M (.int .i64 1) w) := by
  have H := Lib.hid h
  by_cases h1 : i < 1
  · clear h hi
    go_enter Try.func31, Try.ntmps31
    go_wp2_with fail
    go_ret
    exact memW_same H.out (Below.refl _ _)
  · have h1' : 1 ≤ i := by omega
    by_cases h2 : 2147483648 ≤ i
    · clear h hi
      go_enter Try.func31, Try.ntmps31
      go_wp2_with fail
      go_ret
      exact memW_same H.out (Below.refl _ _)
    · have h2' : i < 2147483648 := by omega
      have C := Lib.hid (r8_find w g M F i h)
      have hs : (pIx M i).isSome = true := by
        rcases hi with hi | hi | hi
        · omega
        · omega
        · exact hi
      obtain ⟨k, hk⟩ := Option.isSome_iff_exists.mp hs
      rw [hk, show ixI (some k) = (k : Int) from rfl] at C
      have k0 : (0 : Int) ≤ k := by omega
      clear h hi hs hk h1 h2
      go_enter Try.func31, Try.ntmps31
      go_wp2_with fail
      refine (C.out).mono ?_
      rintro e w1 ⟨rfl, b1⟩
      have V := Lib.hid b1
      clear b1
      go_wp2_with fail
      go_ret
      exact memW_same H.out V.out

set_option maxRecDepth 100000 in
set_option maxHeartbeats 2000000 in
theorem r8_Make_long (w : World) (g : Nat) (M : PM) (F : Nat → Prop) (i : Int) (B : Option Addr) (n d : Nat) (bl fx : Bool) (h : RepR w g M F) (hi : 1 ≤ i ∧ i < 2147483648) (hx : pIx M i = none) (hn : 1024 < n) :
    Calls Try.prog 31 #[.pointer (some ⟨g, 0, none⟩), .int .i64 i, .slice B n d, .bool bl, .bool fx] w (MemW RepR g F M (.int .i64 3) w) := by
  have H := Lib.hid h
  have C := Lib.hid (r8_find w g M F i h)
  rw [hx, show ixI none = -1 from rfl] at C
  have hn' : (1024 : Int) < n := by omega
  clear h hx
  go_enter Try.func31, Try.ntmps31
  go_wp2_with fail
  refine (C.out).mono ?_
  rintro e w1 ⟨rfl, b1⟩
  have V := Lib.hid b1
  clear b1
  go_wp2_with fail
  go_ret
  exact memW_same H.out V.out

/-- 'append([]byte{}, b...)': bytes of the call's own. -/
theorem copy_bytes (u : World) (base g0 : Nat) (B : Option Addr) (n d : Nat) (b : List Int) (ty : TypeId) (hown : u.ownsRow base 5 1 (.slice (some ⟨g0, 0, none⟩) 0 0) 0 []) (h : BytS u B b) (hn : n = b.length) (hs : n ≤ 100000) (hb : base ≤ u.heap.size) :
    ∃ v' w', (Builtin.append_ #[40, 40] ty #[.slice (some ⟨g0, 0, none⟩) 0 0, .slice B n d]).run Try.prog u = .ok v' w' ∧ w'.ownsRow base 5 1 v' n (byC b) ∧ u.grownBy w' (some g0) := by
  obtain ⟨i0, hi0, hz, h1, h2⟩ := info_parts (show (Try.prog.info? 5).map (fun i => (i.zero, i.size, i.bytes)) = some (some (.int .u8 0), 1, 1) by kernel_rfl)
  by_cases hz0 : n = 0
  · have eb : b = [] := List.eq_nil_of_length_eq_zero (by omega)
    subst eb
    refine ⟨_, u, append_none' u 40 ty 5 i0 Try.underlying40 hi0 g0 B n d hz0, ?_, World.grownBy.refl u _⟩
    rw [hz0]
    exact hown
  · obtain ⟨gb, ob, rfl, hgb, hcell⟩ := h (by omega)
    obtain ⟨v', w', hr, ho, hg, _⟩ := run_append_own (P := Try.prog) u base 40 ty 5 i0 (.int .u8 0) 1 1 Try.underlying40 hi0 hz h1 h2 rfl (by omega) _ 0 [] hown ⟨gb, ob, none⟩ n d (byC b) (by rw [byC_len]; omega) (byt_news ⟨hgb, hcell⟩) (byC_one b) (by unfold maxLen; omega) (by omega) hb
    rw [Nat.zero_add, List.nil_append] at ho
    exact ⟨v', w', hr, ho, hg⟩

theorem rep_zero (k : Nat) (b : Bool) : boC (List.replicate (k + 1) b) = boC (List.replicate k b) ++ [.bool b] := by
  rw [List.replicate_succ', boC_app]
  rfl

/-- An area as it is being made: its bytes, its variable, what is blank of it so far. -/
structure MkR (w : World) (B1 gx : Nat) (i : Int) (v1 : Value) (n : Nat) (b : List Int) (fx bl : Bool) (vk : Value) (j : Nat) (u : World) : Prop where
  below : Below w.heap.size w u
  bytes : u.ownsRow B1 5 1 v1 n (byC b)
  var : Blk gx #[.int .i64 i, v1, vk, .bool fx] 101 u
  row : u.ownsRow (gx + 1) 4 1 vk j (boC (List.replicate j bl))
  base : w.heap.size ≤ gx
  low : ∀ x, v1.ownBlock = some x → x < gx
theorem MkR.step {w u w3 : World} {B1 gx n j : Nat} {i : Int} {v1 vk vk' : Value} {b : List Int} {fx bl : Bool} {o : Obj} (h : MkR w B1 gx i v1 n b fx bl vk j u)
    (ho : w3.ownsRow (gx + 1) 4 1 vk' (j + 1) (boC (List.replicate j bl) ++ [.bool bl])) (hg : (u.alloc o).grownBy w3 vk.ownBlock) :
    Blk gx #[.int .i64 i, v1, vk, .bool fx] 101 w3 ∧ MkR w B1 gx i v1 n b fx bl vk' (j + 1) (w3.setCell ⟨gx, 2, none⟩ vk') := by
  have hlow : ∀ k, vk.ownBlock = some k → gx + 1 ≤ k := fun k hk => (h.row.lt k hk).1
  have hgx := Blk.lt h.var
  have hblk : ∀ x, x ≤ gx → w3.heap[x]? = u.heap[x]? := fun x hx => by
    rw [hg.block x (by simp; omega) (fun e => by have := hlow x e.symm; omega)]
    exact Below.heap_alloc _ _ _ (by omega)
  have hv : Blk gx #[.int .i64 i, v1, vk, .bool fx] 101 w3 := Blk.same h.var (hblk gx (Nat.le_refl _))
  refine ⟨hv, ?_, ?_, ?_, ?_, h.base, h.low⟩
  · exact ((h.below.alloc h.below.size o).grown hg (by have := h.below.size; simp; omega) (fun k hk => by have := hlow k hk; have := h.base; omega)).setCell (p := ⟨gx, 2, none⟩) h.base _
  · exact own_same h.bytes (fun x hx => by
      have := h.low x hx
      rw [Below.heap_setCell _ _ _ _ (by show x ≠ gx; omega)]
      exact hblk x (by omega))
  · exact Blk.set hv 2 vk'
  · rw [rep_zero]
    exact ownsRow_setCell_below ho (a := ⟨gx, 2, none⟩) (Nat.lt_succ_self _) _

theorem MkR.done {w wr w5 : World} {g B1 gx n cl g2 cap : Nat} {Al : Option Addr} {i : Int} {v1 vk : Value} {b : List Int} {fx bl : Bool} {L : List AR} {F : Nat → Prop} {o : Obj}
    (q : MkR w B1 gx i v1 n b fx bl vk n wr) (h : RepA w g (.slice Al L.length cl) L F) (hB : w.heap.size ≤ B1) (hn : b.length = n) (hn' : n ≤ 1024) (hob : OkB b) (hi : 1 ≤ i ∧ i < 2147483648)
    (ho : w5.ownsRow 0 101 4 (.slice (some ⟨g2, 0, none⟩) (L.length + 1) cap) (L.length + 1) (arC L ++ cA ⟨⟨i, b, List.replicate n bl, fx⟩, v1, vk⟩))
    (hg : (wr.alloc o).grownBy w5 (Value.slice Al L.length cl).ownBlock) (hat : (Value.slice Al L.length cl).ownBlock = some g2 ∨ g2 = wr.heap.size + 1) :
    Blk g #[.slice Al L.length cl] 30 w5 ∧ MemW RepR g F (arM L ++ [⟨i, b, List.replicate n bl, fx⟩]) (.int .i64 0) w (.returned (.int .i64 0)) (w5.setCell ⟨g, 0, none⟩ (.slice (some ⟨g2, 0, none⟩) (L.length + 1) cap)) := by
  have hgw : g < w.heap.size := Blk.lt h.blk
  have hsz := q.below.size
  have hvl : ∀ x, (Value.slice Al L.length cl).ownBlock = some x → x < w.heap.size ∧ x ≠ g := fun x hx => ⟨h.lt (h.foot1 hx), fun e => by
    have := h.apart 1 0 x hx (by rw [e]; rfl)
    omega⟩
  have hgx := Blk.lt q.var
  have blk5 : ∀ x, x < wr.heap.size → (Value.slice Al L.length cl).ownBlock ≠ some x → w5.heap[x]? = wr.heap[x]? := fun x hx hne => by
    rw [hg.block x (by simp; omega) (fun e => hne e.symm)]
    exact Below.heap_alloc _ _ _ hx
  have bg : Blk g #[.slice Al L.length cl] 30 w5 := Blk.same (Blk.same h.blk (q.below.block g hgw)) (blk5 g (by omega) (fun e => (hvl g e).2 rfl))
  refine ⟨bg, rfl, ?_⟩
  have un : ∀ x, x ≠ g → (w5.setCell ⟨g, 0, none⟩ (.slice (some ⟨g2, 0, none⟩) (L.length + 1) cap)).heap[x]? = w5.heap[x]? := fun x hx => Below.heap_setCell _ _ _ _ hx
  have g2g : g2 ≠ g := by
    rcases hat with e | e
    · exact (hvl g2 e).2
    · omega
  have hv1 : ∀ x, v1.ownBlock = some x → w.heap.size ≤ x ∧ x < gx := fun x hx => ⟨by have := (q.bytes.lt x hx).1; omega, q.low x hx⟩
  have hvk : ∀ x, vk.ownBlock = some x → gx + 1 ≤ x ∧ x < wr.heap.size := fun x hx => q.row.lt x hx
  have hbase := q.base
  have old : ∀ x, w.heap.size ≤ x → x < wr.heap.size → (w5.setCell ⟨g, 0, none⟩ (.slice (some ⟨g2, 0, none⟩) (L.length + 1) cap)).heap[x]? = wr.heap[x]? := fun x h1 h2 =>
    (un x (by omega)).trans (blk5 x h2 (fun e => by have := (hvl x e).1; omega))
  obtain ⟨F', hR, hF'⟩ := RepA.add (u := w5.setCell ⟨g, 0, none⟩ (.slice (some ⟨g2, 0, none⟩) (L.length + 1) cap)) (vl' := .slice (some ⟨g2, 0, none⟩) (L.length + 1) cap) (r := ⟨⟨i, b, List.replicate n bl, fx⟩, v1, vk⟩) h
    (fun x hF hxg hxv => by
      have hx := h.lt hF
      exact (un x hxg).trans ((blk5 x (by omega) hxv).trans (q.below.block x hx)))
    (Blk.set bg 0 _)
    (by
      rw [arC_app, show arC [(⟨⟨i, b, List.replicate n bl, fx⟩, v1, vk⟩ : AR)] = cA ⟨⟨i, b, List.replicate n bl, fx⟩, v1, vk⟩ by simp [arC]]
      exact own_same ho (fun x hx => un x (by cases hx; exact g2g)))
    (by
      refine ⟨?_, ?_⟩
      · show World.ownsRow _ _ _ _ v1 b.length _
        rw [hn]
        exact own_same (own_base q.bytes (fun x hx => Nat.zero_le _)) (fun x hx => old x (hv1 x hx).1 (by have := (hv1 x hx).2; omega))
      · show World.ownsRow _ _ _ _ vk (List.replicate n bl).length _
        rw [List.length_replicate]
        exact own_same (own_base q.row (fun x hx => Nat.zero_le _)) (fun x hx => old x (by have := (hvk x hx).1; omega) (hvk x hx).2))
    (fun x hx => (hv1 x hx).1) (fun x hx => by have := (hvk x hx).1; omega) (fun x hx hk => by have := (hv1 x hx).2; have := (hvk x hk).1; omega)
    (by
      rcases hat with e | e
      · exact .inl e.symm
      · exact .inr ⟨g2, rfl, by omega, fun hx => by have := (hv1 g2 hx).2; omega, fun hx => by have := (hvk g2 hx).2; omega⟩)
    ⟨hob, by simp only [List.length_replicate]; exact hn.symm, by simp only; omega, hi⟩
  refine ⟨F', ⟨_, _, by rw [arM_app], hR⟩, ?_, hF'⟩
  refine (((Turn.of_below (F := F) q.below).alloc o).grown hg (fun k hk => .inl (h.foot1 hk))).setCell (p := ⟨g, 0, none⟩) (.inl h.foot0) _

set_option maxRecDepth 100000 in
set_option maxHeartbeats 4000000 in
theorem r8_Make_ok (w : World) (g : Nat) (M : PM) (F : Nat → Prop) (i : Int) (b : List Int) (B : Option Addr) (d : Nat) (bl fx : Bool) (h : RepR w g M F) (hi : 1 ≤ i ∧ i < 2147483648) (hx : pIx M i = none) (hb : BytS w B b) (hob : OkB b) (hd : b.length ≤ d) (hmd : d ≤ maxLen) (hn : b.length ≤ 1024) (hM : M.length ≤ 100000) :
    Calls Try.prog 31 #[.pointer (some ⟨g, 0, none⟩), .int .i64 i, .slice B b.length d, .bool bl, .bool fx] w (MemW RepR g F (M ++ [⟨i, b, List.replicate b.length bl, fx⟩]) (.int .i64 0) w) := by
  have C := Lib.hid (r8_find w g M F i h)
  rw [hx, show ixI none = -1 from rfl] at C
  clear hx
  obtain ⟨vl, L, rfl, h⟩ := h
  rw [arM_len] at hM
  have HR : Hid (∀ w', Below w.heap.size w w' → RepA w' g vl L F) := Lib.hid fun w' b => h.keep fun x hx => b.block x (h.lt hx)
  have HLT : Hid (∀ x, F x → x < w.heap.size) := Lib.hid fun x hx => h.lt hx
  have HB := Lib.hid hb
  have HO := Lib.hid hob
  obtain ⟨Al, cl, hvl, _, hcl⟩ := own_slice h.row
  have HVL := Lib.hid hvl
  clear h hb hob hvl
  obtain ⟨i0, hi0, hz, h1, h2⟩ := info_parts (show (Try.prog.info? 5).map (fun i => (i.zero, i.size, i.bytes)) = some (some (.int .u8 0), 1, 1) by kernel_rfl)
  have HINF := Lib.hid (And.intro hi0 (And.intro hz (And.intro h1 h2)))
  clear hi0 hz h1 h2
  obtain ⟨i1, hi1, hz, h1, h2⟩ := info_parts (show (Try.prog.info? 4).map (fun i => (i.zero, i.size, i.bytes)) = some (some (.bool false), 1, 1) by kernel_rfl)
  have HINB := Lib.hid (And.intro hi1 (And.intro hz (And.intro h1 h2)))
  clear hi1 hz h1 h2
  obtain ⟨i2, hi2, hz, h1, h2⟩ := info_parts (show (Try.prog.info? 101).map (fun i => (i.zero, i.size, i.bytes)) = some (some (.agg #[.int .i64 0, .slice none 0 0, .slice none 0 0, .bool false]), 4, 64) by kernel_rfl)
  have HINA := Lib.hid (And.intro hi2 (And.intro hz (And.intro h1 h2)))
  clear hi2 hz h1 h2
  unfold maxLen at hmd hcl
  generalize hlen : b.length = n at *
  have HLEN := Lib.hid hlen
  clear hlen
  have hn' : (n : Int) ≤ 1024 := by omega
  have hn0 : (0 : Int) ≤ n := by omega
  obtain ⟨hi1', hi2'⟩ := hi
  have HI : Hid (1 ≤ i ∧ i < 2147483648) := Lib.hid ⟨hi1', hi2'⟩
  go_enter Try.func31, Try.ntmps31
  go_wp2_with fail
  refine (C.out).mono ?_
  rintro e w1 ⟨rfl, b1⟩
  have V := Lib.hid b1
  clear b1 C
  have OWN0 := World.ownsRow_made (base := w1.heap.size) (e := 5) (size := 1) w1 #[] 0 (Nat.le_refl _) (Nat.zero_le _) rfl
  have V0 : Hid (Below w.heap.size w (w1.alloc (.cells #[] 5))) := Lib.hid (below_alloc V.out _)
  obtain ⟨v1, w2, hrun, hown1, hgr1⟩ := copy_bytes (w1.alloc (.cells #[] 5)) w1.heap.size w1.heap.size B n d b 40 OWN0 (HB.out.after V0.out) HLEN.out.symm (by omega) (by simp)
  have V2 : Hid (Below w.heap.size w w2) := Lib.hid (V0.out.grown hgr1 V0.out.size (fun k hk => by cases hk; exact V.out.size))
  have Z1 : Hid (w.heap.size ≤ w1.heap.size) := Lib.hid V.out.size
  clear hgr1 OWN0 V V0 HB
  obtain ⟨A1, c1, rfl, _, hc1⟩ := own_slice hown1
  have OB := Lib.hid hown1
  have OBB : Hid (∀ x, (Value.slice A1 n c1).ownBlock = some x → w1.heap.size ≤ x ∧ x < w2.heap.size) := Lib.hid fun x hx => hown1.lt x hx
  clear hown1
  go_wp2_with ((at_builtin; refine Lib.wpList_append_run _ rfl (.tmp 29) (.tmp 30) _ _ rfl _ _ rfl rfl _ _ hrun ?_))
  have hlow : ∀ x, (Value.slice A1 n c1).ownBlock = some x → x < w2.heap.size := fun x hx => (OBB.out x hx).2
  have Q0 : Hid (MkR w w1.heap.size w2.heap.size i (.slice A1 n c1) n b fx bl (.slice none 0 0) 0 (w2.alloc (.cells #[.int .i64 i, .slice A1 n c1, .slice none 0 0, .bool fx] 101))) :=
    Lib.hid ⟨below_alloc V2.out _, OB.out.alloc _, Blk.new w2 _ _ rfl, World.ownsRow_nil _ _ _ _, V2.out.size, hlow⟩
  clear hlow hrun OB
  go_loopw [12] (fun iv wr => ∃ (j : Nat) (vk : Value), iv = .int .i64 j ∧ j ≤ n ∧ Hid (MkR w w1.heap.size w2.heap.size i (.slice A1 n c1) n b fx bl vk j wr)) (fun iv wr => n - (intOf iv).toNat)
  case atStart => exact ⟨0, _, rfl, by omega, Q0⟩
  case round =>
    clear Q0
    obtain ⟨j, vk, rfl, hj, Q⟩ := hrel
    have j0 : (0 : Int) ≤ j := by omega
    obtain ⟨Ak, ck, rfl, _, hck⟩ := own_slice Q.out.row
    by_cases hlt : (j : Int) < n
    · obtain ⟨vk', w3, hr, ho, hg, _⟩ := run_append_own (P := Try.prog) (wr.alloc (.cells #[.bool bl] 4)) (w2.heap.size + 1) 94 94 4 i1 (.bool false) 1 1 Try.underlying94 HINB.out.1 HINB.out.2.1 HINB.out.2.2.1 HINB.out.2.2.2 rfl (by omega) (.slice Ak j ck) j (boC (List.replicate j bl)) (Q.out.row.alloc _) ⟨wr.heap.size, 0, none⟩ 1 1 [.bool bl] rfl (cell_one_new wr (.bool bl) _) (by intro u hu; simp at hu; subst hu; rfl) (by unfold maxLen; omega) (by omega) (by have := Blk.lt Q.out.var; simp; omega)
      obtain ⟨hv, hq⟩ := Q.out.step ho hg
      have QS := Lib.hid hq
      obtain ⟨A3, c3, rfl, _, hc3⟩ := own_slice ho
      have x2 := Blk.cell (Q.out.var) 2
      have x2' := Blk.cell hv 2
      have f2' := Blk.free hv 2
      clear hv hq ho hg
      go_wp2_with ((at_builtin; refine Lib.wpList_append_run _ rfl (.tmp 41) (.tmp 43) _ _ rfl _ _ rfl rfl _ _ hr ?_))
      go_round
      case rel => exact ⟨j + 1, _, by go_num, by omega, QS⟩
      case measure => simp [intOf]; omega
    · have hjn : j = n := by omega
      subst hjn
      have HA0 := Lib.hid (HR.out w (Below.refl _ _))
      have HAr := Lib.hid (HR.out wr Q.out.below)
      obtain rfl := HVL.out
      have OWNL := Lib.hid (HAr.out.row.alloc (.cells #[.int .i64 i, .slice A1 j c1, .slice Ak j ck, .bool fx] 101))
      have NEWS : Hid (∀ t u, (cA ⟨⟨i, b, List.replicate j bl, fx⟩, .slice A1 j c1, .slice Ak j ck⟩)[t]? = some u → (wr.alloc (.cells #[.int .i64 i, .slice A1 j c1, .slice Ak j ck, .bool fx] 101)).cell? ((⟨wr.heap.size, 0, none⟩ : Addr).add t) = some u) :=
        Lib.hid (World.news_of_block (w := wr.alloc (.cells #[.int .i64 i, .slice A1 j c1, .slice Ak j ck, .bool fx] 101)) (t := 101) (fr := (0, 0)) (heap_alloc_new wr _))
      have ONE : Hid (∀ u ∈ cA ⟨⟨i, b, List.replicate j bl, fx⟩, .slice A1 j c1, .slice Ak j ck⟩, u.oneCell' = true) := Lib.hid (by
        intro u hu
        simp only [cA, List.mem_cons, List.not_mem_nil, or_false] at hu
        rcases hu with rfl | rfl | rfl | rfl <;> rfl)
      have c0 := HAr.out.cell
      obtain ⟨x0, x1, x2, x3⟩ : wr.cell? ⟨w2.heap.size, 0, none⟩ = some (.int .i64 i) ∧ wr.cell? ⟨w2.heap.size, 1, none⟩ = some (.slice A1 j c1) ∧ wr.cell? ⟨w2.heap.size, 2, none⟩ = some (.slice Ak j ck) ∧ wr.cell? ⟨w2.heap.size, 3, none⟩ = some (.bool fx) := ⟨Blk.cell Q.out.var 0, Blk.cell Q.out.var 1, Blk.cell Q.out.var 2, Blk.cell Q.out.var 3⟩
      have c0' := cell_alloc c0 (.cells #[.int .i64 i, .slice A1 j c1, .slice Ak j ck, .bool fx] 101)
      go_wp2_with fail
      go_region_law (refine step_append_lies _ rfl (.tmp 50) (.tmp 52) _ rfl 0 101 i2 (.agg #[.int .i64 0, .slice none 0 0, .slice none 0 0, .bool false]) 4 64 Try.underlying28 HINA.out.1 HINA.out.2.1 HINA.out.2.2.1 HINA.out.2.2.2 rfl (by omega) (.slice Al L.length cl) L.length (arC L) rfl OWNL.out ⟨wr.heap.size, 0, none⟩ 1 1 _ rfl rfl NEWS.out ONE.out (by omega) (by unfold maxLen; omega) (by omega) (Nat.zero_le _) (wr.heap.size + 1) (by simp) ?_; intro g2 cap2 w5 hown5 hgr5 hat5 hlt5; have DONE := Lib.hid (Q.out.done HA0.out Z1.out HLEN.out (by omega) HO.out HI.out hown5 ⟨hgr5.os, hgr5.tape, hgr5.output, hgr5.size, hgr5.block⟩ hat5); have y0 := Blk.cell DONE.out.1 0; have y1 := Blk.free DONE.out.1 0; clear hown5 hgr5 hat5 hlt5)
      all_goals (go_wp2_with fail; go_ret; exact DONE.out.2)

theorem r8_Make (w : World) (g : Nat) (M : PM) (F : Nat → Prop) (i : Int) (b : List Int) (B : Option Addr) (d : Nat) (bl fx : Bool) (h : RepR w g M F) (hb : BytS w B b) (hob : OkB b) (hd : b.length ≤ d) (hmd : d ≤ maxLen) (hM : M.length ≤ 100000) :
    Calls Try.prog 31 #[.pointer (some ⟨g, 0, none⟩), .int .i64 i, .slice B b.length d, .bool bl, .bool fx] w (MemW RepR g F (pMake M i b bl fx).1 (.int .i64 (pMake M i b bl fx).2) w) := by
  unfold pMake
  by_cases h1 : i < 1 ∨ 2147483648 ≤ i ∨ (pIx M i).isSome = true
  · rw [if_pos h1]
    exact r8_Make_arg w g M F i B b.length d bl fx h h1
  · rw [if_neg h1]
    have hx : pIx M i = none := by
      cases hx : pIx M i with
      | none => rfl
      | some k => exact absurd (.inr (.inr (by rw [hx]; rfl))) h1
    by_cases h2 : 1024 < b.length
    · rw [if_pos h2]
      exact r8_Make_long w g M F i B b.length d bl fx h (by omega) hx h2
    · rw [if_neg h2]
      exact r8_Make_ok w g M F i b B d bl fx h (by omega) hx hb hob hd hmd (by omega) hM
/-- Memory without areas. -/
theorem RepR.new (w : World) : RepR (w.alloc (.cells #[.slice none 0 0] 30)) w.heap.size [] (fun x => x = w.heap.size) := by
  refine ⟨.slice none 0 0, [], rfl, Blk.new w _ _ rfl, World.ownsRow_nil _ _ _ _, fun k hk => absurd hk (by simp), ?_, ?_, fun k hk => absurd hk (by simp [arM])⟩
  · intro p q x hp hq
    rcases arBlk_cases hp with ⟨h1, _⟩ | ⟨_, h2⟩ | ⟨k, hk, _⟩
    · rcases arBlk_cases hq with ⟨h3, _⟩ | ⟨_, h4⟩ | ⟨k, hk, _⟩
      · omega
      · cases h4
      · simp at hk
    · cases h2
    · simp at hk
  · intro x
    constructor
    · rintro rfl; exact ⟨0, rfl⟩
    · rintro ⟨p, hp⟩
      rcases arBlk_cases hp with ⟨_, h2⟩ | ⟨_, h2⟩ | ⟨k, hk, _⟩
      · exact h2
      · cases h2
      · simp at hk

end Go.Proofs.Ytempkpfcjonaaaa
