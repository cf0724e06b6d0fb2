/-
  Texts, one behind the other: MachTold.
  Conditions: those that each theorem states.
-/
import Derived.LoopTactic
import Derived.Test.YtlbhffdpklbhfaaGreatPz30
namespace Go.Proofs.YtlbhffdpklbhfaaGreat
open Go.RowKit
set_option maxRecDepth 100000
set_option linter.unusedVariables false
set_option linter.unusedSimpArgs false
theorem m11_tell (w : World) (g B gc : Nat) (r : CR) (S : MS) (H : Nat → Prop) (k n : Int) (h : (sysX g S).R w H) (hT : TC B gc r w) (hB : B ≤ w.heap.size) (hHB : ∀ x, H x → x < B) (hn : 0 ≤ n ∧ n ≤ 18446744073709551615)
    (hk : k = 1 ∨ k = 2 ∨ k = 3 ∨ k = 4) (hm : k = 2 ∨ k = 3 → r.c.map < S.D.length) (hl : r.c.n.length ≤ 7) :
    Calls Tryz.prog 157 #[.pointer (some ⟨g, 0, none⟩), .pointer (some ⟨gc, 0, none⟩), .int .u8 k, .int .u64 n] w (TellW B gc (mTell S r.c k n) w) := by
  rcases hk with rfl | rfl | rfl | rfl
  · exact m11_tell_map w g B gc r S H n h hT hB hn
  · exact m11_tell_key w g B gc r S H n h hT hB hHB hn (hm (.inl rfl))
  · exact m11_tell_val w g B gc r S H n h hT hB hHB hn (hm (.inr rfl))
  · exact m11_tell_num w g B gc r S n hT hB hn hl
def KdOk (ks : List Int) : Prop := ks.length ≤ 4 ∧ ∀ j, j < ks.length → (bAt ks j = 1 ∨ bAt ks j = 2 ∨ bAt ks j = 3 ∨ bAt ks j = 4) ∧ (bAt ks j = 2 ∨ bAt ks j = 3 → 0 < j ∧ bAt ks 0 = 1)
theorem tolds_step (S : MS) {ks : List Int} {j : Nat} (hj : j < ks.length) (c : Cl) : mTolds S j (ks.drop j) c =
    if (mTel1 S c (bAt ks j) ((j : Int) + 1)).2 == 0 then mTolds S (j + 1) (ks.drop (j + 1)) (mTel1 S c (bAt ks j) ((j : Int) + 1)).1 else (Cl.zero, (mTel1 S c (bAt ks j) ((j : Int) + 1)).2) := by
  have e : ks.drop j = bAt ks j :: ks.drop (j + 1) := by
    rw [List.drop_eq_getElem_cons hj]
    unfold bAt
    rw [List.getD_eq_getElem?_getD, List.getElem?_eq_getElem hj]
    rfl
  rw [e]
  rfl
theorem tolds_end (S : MS) {ks : List Int} (c : Cl) : mTolds S ks.length (ks.drop ks.length) c = (c, 0) := by
  rw [List.drop_length]
  rfl
theorem tell_n (S : MS) (c : Cl) (k n : Int) : (mTell S c k n).1.n.length ≤ c.n.length + 1 := by
  unfold mTell
  split
  · split <;> simp
  · split
    · simp
    · split
      · simp
      · split
        · simp
        · simp
theorem tell_map (S : MS) (c : Cl) (k n : Int) (he : (mTell S c k n).2 = 0) (h : k = 1 ∨ c.map < S.D.length) : (mTell S c k n).1.map < S.D.length := by
  unfold mTell at he ⊢
  split
  · rename_i hk
    rw [if_pos hk] at he
    split
    · rename_i hc
      rw [if_pos hc] at he
      cases he
    · dsimp only; omega
  · rename_i hk
    have h' : c.map < S.D.length := by
      rcases h with rfl | h
      · exact absurd rfl hk
      · exact h
    split
    · exact h'
    · split
      · exact h'
      · split
        · exact h'
        · exact h'
structure CRN (B : Nat) (u : World) (r : CR) : Prop where
  s : CRS u r
  k : ∀ g o, 0 < r.c.k.length → r.ka = some ⟨g, o, none⟩ → B ≤ g
  v : ∀ g o, 0 < r.c.v.length → r.va = some ⟨g, o, none⟩ → B ≤ g
  n : ∀ g o, 0 < r.c.n.length → r.na = some ⟨g, o, none⟩ → B ≤ g
theorem TC.crn {B gc : Nat} {r : CR} {u : World} (h : TC B gc r u) : CRN B u r :=
  ⟨⟨h.k, h.v, own_numS rfl h.n⟩, fun g o h0 e => (h.kl g o h0 e).1, fun g o h0 e => (h.vl g o h0 e).1, fun g o h0 e => (h.n.lt g (by unfold CR.nv; rw [e]; rfl)).1⟩
theorem CRN.after {B : Nat} {u u' : World} {r : CR} (h : CRN B u r) (b : Below u.heap.size u u') : CRN B u' r := ⟨⟨h.s.k.after b, h.s.v.after b, h.s.n.after b⟩, h.k, h.v, h.n⟩
theorem CRN.mono {B B' : Nat} {u : World} {r : CR} (h : CRN B u r) (hB : B' ≤ B) : CRN B' u r := ⟨h.s, fun g o a b => Nat.le_trans hB (h.k g o a b), fun g o a b => Nat.le_trans hB (h.v g o a b), fun g o a b => Nat.le_trans hB (h.n g o a b)⟩
theorem TC.six {gr gc : Nat} {r : CR} {u : World} (h : TC (gr + 1) gc r u) (a b c d e f : Value) : CRN (gr + 1) (Go.Proofs.YtlbhffdpklbhfaaGreat.six u gr a b c d e f) r := by
  have hb : ∀ x, gr + 1 ≤ x → (Go.Proofs.YtlbhffdpklbhfaaGreat.six u gr a b c d e f).heap[x]? = u.heap[x]? := fun x hx => by
    have ne : x ≠ gr := by omega
    unfold Go.Proofs.YtlbhffdpklbhfaaGreat.six
    rw [Below.heap_setCell _ _ _ _ ne, Below.heap_setCell _ _ _ _ ne, Below.heap_setCell _ _ _ _ ne, Below.heap_setCell _ _ _ _ ne, Below.heap_setCell _ _ _ _ ne, Below.heap_setCell _ _ _ _ ne]
  have hz : (Go.Proofs.YtlbhffdpklbhfaaGreat.six u gr a b c d e f).heap.size = u.heap.size := by
    unfold Go.Proofs.YtlbhffdpklbhfaaGreat.six
    simp only [setCell_size]
  have q := h.crn
  refine ⟨⟨bytS_stay q.s.k (by rw [hz]; exact Nat.le_refl _) (fun g o h0 e => hb g (q.k g o h0 e)), bytS_stay q.s.v (by rw [hz]; exact Nat.le_refl _) (fun g o h0 e => hb g (q.v g o h0 e)), own_numS rfl (own_same h.n (fun k hk => hb k (h.n.lt k hk).1))⟩, q.k, q.v, q.n⟩
theorem CR.zero_ok : CR.zero.ok := ⟨⟨fun k hk => absurd hk (by simp [CR.zero, Cl.zero]), fun k hk => absurd hk (by simp [CR.zero, Cl.zero]), fun k hk => absurd hk (by simp [CR.zero, Cl.zero]), by simp [CR.zero, Cl.zero], by simp [CR.zero, Cl.zero], by simp [CR.zero, Cl.zero], by simp [CR.zero, Cl.zero], by simp [CR.zero, Cl.zero], by simp [CR.zero, Cl.zero]⟩, ⟨Nat.le_refl _, Nat.zero_le _⟩, ⟨Nat.le_refl _, Nat.zero_le _⟩, ⟨Nat.le_refl _, Nat.zero_le _⟩⟩
theorem CRN.zero (B : Nat) (u : World) : CRN B u CR.zero := ⟨⟨BytS.none_ _ _, BytS.none_ _ _, NumS.none_ _ _⟩, fun g o h => absurd h (by simp [CR.zero, Cl.zero]), fun g o h => absurd h (by simp [CR.zero, Cl.zero]), fun g o h => absurd h (by simp [CR.zero, Cl.zero])⟩
def ToldW (c : Cl × Int) (w : World) (e : Ending) (w' : World) : Prop := ∃ r, e = .returned (.tuple #[.agg (cCR r).toArray, .int .i64 c.2]) ∧ r.c = c.1 ∧ r.ok ∧ CRN w.heap.size w' r ∧ Below w.heap.size w w'
structure TQ (w : World) (S : MS) (ks : List Int) (j : Nat) (r : CR) (u : World) : Prop where
  below : Below w.heap.size w u
  tc : TC (w.heap.size + 1 + 1) (w.heap.size + 1 + 1) r u
  res : Blk (w.heap.size + 1) (cCR CR.zero).toArray 59 u
  is : mTolds S 0 ks Cl.zero = mTolds S j (ks.drop j) r.c
  n : r.c.n.length ≤ j
  map : 0 < j → bAt ks 0 = 1 → r.c.map < S.D.length
set_option maxHeartbeats 4000000 in
theorem m11_told (w : World) (g : Nat) (S : MS) (H : Nat → Prop) (s : Sg) (A : Option Addr) (c : Nat) (h : (sysX g S).R w H) (hs : BytS w A s.told) (hk : KdOk s.told) (hsc : s.told.length ≤ c) :
    Calls Tryz.prog 108 #[.pointer (some ⟨g, 0, none⟩), sgV s A c] w (ToldW (mTolds S 0 s.told Cl.zero) w) := by
  have hHB : ∀ x, H x → x < w.heap.size := fun x hx => (sysX g S).lt h hx
  have HH := Lib.hid fun u (b : Below w.heap.size w u) => (sysX g S).keep h (fun x hx => b.block x (hHB x hx))
  have hok := sysX_ok h
  have RD := Lib.hid fun u (b : Below w.heap.size w u) (i : Int) (hi : 0 ≤ i ∧ i ≤ 10) => m11_readI u g S H i (HH.out u b) hi
  have RG := Lib.hid fun (i : Int) (hi : 0 ≤ i ∧ i ≤ 10) => rd_rng hok i hi
  have TL := Lib.hid fun u (b : Below w.heap.size w u) (r : CR) (k n : Int) (hT : TC (w.heap.size + 1 + 1) (w.heap.size + 1 + 1) r u) => m11_tell u g (w.heap.size + 1 + 1) (w.heap.size + 1 + 1) r S H k n (HH.out u b) hT (Nat.le_of_lt hT.blk.lt) (fun x hx => by have := hHB x hx; omega)
  have KS := Lib.hid hk.2
  have HL := Lib.hid hs
  have hk4 := hk.1
  have Q0 : Hid (TQ w S s.told 0 CR.zero (((w.alloc (.cells #[.slice A s.told.length c, .int .u8 s.tells, .bool s.draws, .int .u64 s.most] 175)).alloc (.cells (cCR CR.zero).toArray 59)).alloc (.cells (cCR CR.zero).toArray 59))) := Lib.hid (by
    have z : World.ownsRow (((w.alloc (.cells #[.slice A s.told.length c, .int .u8 s.tells, .bool s.draws, .int .u64 s.most] 175)).alloc (.cells (cCR CR.zero).toArray 59)).alloc (.cells (cCR CR.zero).toArray 59)) (w.heap.size + 1 + 1) 42 1 (.slice none 0 0) 0 [] := World.ownsRow_nil _ _ _ _
    have b1 := Blk.new (w.alloc (.cells #[.slice A s.told.length c, .int .u8 s.tells, .bool s.draws, .int .u64 s.most] 175)) (cCR CR.zero).toArray 59 (g := w.heap.size + 1) (by simp)
    have b2 := Blk.new ((w.alloc (.cells #[.slice A s.told.length c, .int .u8 s.tells, .bool s.draws, .int .u64 s.most] 175)).alloc (.cells (cCR CR.zero).toArray 59)) (cCR CR.zero).toArray 59 (g := w.heap.size + 2) (by simp)
    exact ⟨below_alloc (below_alloc (below_alloc (Below.refl _ _) _) _) _, ⟨b2, Nat.le_refl _, CR.zero_ok, BytS.none_ _ _, fun g o h => absurd h (by simp [CR.zero, Cl.zero]), BytS.none_ _ _, fun g o h => absurd h (by simp [CR.zero, Cl.zero]), z, by simp [CR.nv, CR.zero, Value.ownBlock]⟩,
      b1.after (below_alloc (Below.refl _ _) _), by rw [List.drop_zero]; rfl, by simp [CR.zero, Cl.zero], fun h => absurd h (by omega)⟩)
  have TS := Lib.hid fun j (hj : j < s.told.length) (cc : Cl) => tolds_step S hj cc
  have TE := Lib.hid fun (cc : Cl) => tolds_end S (ks := s.told) cc
  obtain ⟨ks, tells, draws, most⟩ := s
  rw [show sgV ⟨ks, tells, draws, most⟩ A c = .agg #[.slice A ks.length c, .int .u8 tells, .bool draws, .int .u64 most] from rfl]
  dsimp only at *
  clear hs hk h hok hHB HH
  generalize hR : mTolds S 0 ks Cl.zero = R at *
  have HR := Lib.hid hR
  generalize hn : ks.length = n at *
  have HN := Lib.hid hn
  clear hn hR
  go_enter Tryz.func108, Tryz.ntmps108
  go_wp2_with fail
  go_loopw [14] (fun iv wr => ∃ (j : Nat) (r : CR), iv = .int .i64 j ∧ j ≤ n ∧ Hid (TQ w S ks j r wr)) (fun iv wr => n - (intOf iv).toNat)
  case atStart => exact ⟨0, CR.zero, rfl, by omega, Q0⟩
  case round =>
    obtain ⟨j, r, rfl, hj, Q⟩ := hrel
    have j0 : (0 : Int) ≤ j := by omega
    by_cases hlt : (j : Int) < n
    · have hjn : j < n := by omega
      obtain ⟨ga, oa, hAA, hga, hcell⟩ := HL.out (by rw [HN.out]; omega)
      have ck : wr.cell? ⟨ga, oa + j, none⟩ = some (.int .u8 (bAt ks j)) := (Q.out.below.cell (p := ⟨ga, oa + j, none⟩) hga).trans (hcell j (by rw [HN.out]; exact hjn))
      have R1 := Lib.hid (RD.out wr Q.out.below (((j + 1 : Nat)) : Int) ⟨by omega, by omega⟩)
      have RG1 := Lib.hid (RG.out (((j + 1 : Nat)) : Int) ⟨by omega, by omega⟩)
      have STEP : Hid (R = if (mTel1 S r.c (bAt ks j) (((j + 1 : Nat)) : Int)).2 == 0 then mTolds S (j + 1) (ks.drop (j + 1)) (mTel1 S r.c (bAt ks j) (((j + 1 : Nat)) : Int)).1 else (Cl.zero, (mTel1 S r.c (bAt ks j) (((j + 1 : Nat)) : Int)).2)) := Lib.hid (by
        rw [← HR.out, Q.out.is, TS.out j (by omega)]
        push_cast
        rfl)
      have KJ := Lib.hid (KS.out j (by omega))
      have e1 : wrap64 ((j : Int) + 1) = ((j + 1 : Nat) : Int) := by unfold wrap64; omega
      have e2 : IntKind.u8.wrap (((j + 1 : Nat)) : Int) = ((j + 1 : Nat) : Int) := by rw [IntKind.wrap_u8]; omega
      unfold mTel1 at STEP
      subst hAA
      clear hcell RD RG TS
      have MP := Lib.hid (fun (he : bAt ks j = 2 ∨ bAt ks j = 3) => Q.out.map (KJ.out.2 he).1 (KJ.out.2 he).2)
      have NL := Lib.hid (show r.c.n.length ≤ 7 from by have := Q.out.n; omega)
      generalize hp : rd S (((j + 1 : Nat)) : Int) = p at *
      clear hp
      obtain ⟨a, ea⟩ := p
      dsimp only at *
      cases h1 : (ea == 0)
      · have n1 := ne_of_eq0 h1
        rw [h1, if_neg Bool.false_ne_true, h1, if_neg Bool.false_ne_true] at STEP
        clear MP NL KJ TL
        go_wp2_with fail
        refine (R1.out).mono ?_
        rintro e w1 ⟨rfl, b1⟩
        have BB := Lib.hid (Q.out.below.trans (b1.mono Q.out.below.size))
        have RB := Lib.hid (Q.out.res.after b1)
        clear b1 R1 Q
        obtain ⟨⟨z0, z1, z2, z3, z4, z5⟩, f0, f1, f2, f3, f4, f5⟩ := RB.out.clc
        go_wp2_with fail
        have Z := six_blk (show Blk (w.heap.size + 1) #[.int .i64 0, .int .i64 0, .slice none 0 0, .slice none 0 0, .slice none 0 0, .int .u64 0] 59 _ from RB.out) (.int .i64 0) (.int .i64 0) (.slice none 0 0) (.slice none 0 0) (.slice none 0 0) (.int .u64 0)
        have ZB := six_below BB.out (show w.heap.size ≤ w.heap.size + 1 by omega) (.int .i64 0) (.int .i64 0) (.slice none 0 0) (.slice none 0 0) (.slice none 0 0) (.int .u64 0)
        obtain ⟨⟨r0, r1, r2, r3, r4, r5⟩, -⟩ := Blk.six Z
        unfold six at r0 r1 r2 r3 r4 r5 ZB
        exact bodyPost_ret (v := .tuple #[.agg #[.int .i64 0, .int .i64 0, .slice none 0 0, .slice none 0 0, .slice none 0 0, .int .u64 0], .int .i64 ea]) (by simp [results, Tryz.results108, go_sem, r0, r1, r2, r3, r4, r5]) rfl ⟨CR.zero, by rw [STEP.out]; rfl, by rw [STEP.out]; rfl, CR.zero_ok, CRN.zero _ _, ZB⟩
      · have h0 : ea = 0 := by simpa using h1
        subst h0
        clear h1
        simp only [show ((0 : Int) == 0) = true from rfl, if_true] at STEP
        have T1 := Lib.hid fun u (b : Below w.heap.size w u) (hT : TC (w.heap.size + 1 + 1) (w.heap.size + 1 + 1) r u) => TL.out u b r (bAt ks j) a hT RG1.out KJ.out.1 MP.out NL.out
        have TN := Lib.hid (tell_n S r.c (bAt ks j) a)
        have TM := Lib.hid (fun (he : (mTell S r.c (bAt ks j) a).2 = 0) (h0 : bAt ks 0 = 1) => tell_map S r.c (bAt ks j) a he (by
          by_cases hj0 : j = 0
          · subst hj0; exact .inl h0
          · exact .inr (Q.out.map (by omega) h0)))
        clear MP NL KJ TL RG1
        generalize mTell S r.c (bAt ks j) a = q at *
        generalize bAt ks j = kj at *
        obtain ⟨c', er⟩ := q
        dsimp only at *
        cases h2 : (er == 0)
        · have n2 := ne_of_eq0 h2
          rw [h2, if_neg Bool.false_ne_true] at STEP
          clear h2 TN TM
          go_wp2_with fail
          refine (R1.out).mono ?_
          rintro e w1 ⟨rfl, b1⟩
          have BB := Lib.hid (Q.out.below.trans (b1.mono Q.out.below.size))
          have RB := Lib.hid (Q.out.res.after b1)
          have TC1 := Lib.hid (Q.out.tc.after b1)
          clear b1 R1
          go_wp2_with fail
          refine (T1.out _ BB.out TC1.out).mono ?_
          rintro e w2 ⟨r', rfl, hr', tc', b2⟩
          have RB2 := Lib.hid (RB.out.below b2 (by omega))
          have BB2 := Lib.hid (BB.out.trans (b2.mono (by omega)))
          have TC2 := Lib.hid tc'
          have HR2 := Lib.hid hr'
          clear b2 tc' hr' T1 TC1
          replace RB := RB2
          replace BB := BB2
          clear RB2 BB2
          obtain ⟨⟨z0, z1, z2, z3, z4, z5⟩, f0, f1, f2, f3, f4, f5⟩ := RB.out.clc
          go_wp2_with fail
          have Z := six_blk (show Blk (w.heap.size + 1) #[.int .i64 0, .int .i64 0, .slice none 0 0, .slice none 0 0, .slice none 0 0, .int .u64 0] 59 _ from RB.out) (.int .i64 0) (.int .i64 0) (.slice none 0 0) (.slice none 0 0) (.slice none 0 0) (.int .u64 0)
          have ZB := six_below BB.out (show w.heap.size ≤ w.heap.size + 1 by omega) (.int .i64 0) (.int .i64 0) (.slice none 0 0) (.slice none 0 0) (.slice none 0 0) (.int .u64 0)
          obtain ⟨⟨r0, r1, r2, r3, r4, r5⟩, -⟩ := Blk.six Z
          unfold six at r0 r1 r2 r3 r4 r5 ZB
          exact bodyPost_ret (v := .tuple #[.agg #[.int .i64 0, .int .i64 0, .slice none 0 0, .slice none 0 0, .slice none 0 0, .int .u64 0], .int .i64 er]) (by simp [results, Tryz.results108, go_sem, r0, r1, r2, r3, r4, r5]) rfl ⟨CR.zero, by rw [STEP.out]; rfl, by rw [STEP.out]; rfl, CR.zero_ok, CRN.zero _ _, ZB⟩
        · have n2 := ne_of_eq1 h2
          rw [h2, if_pos rfl] at STEP
          have er0 : er = 0 := by simpa using h2
          have TM2 := Lib.hid (fun h0 => TM.out er0 h0)
          clear h2 TM er0
          go_wp2_with fail
          refine (R1.out).mono ?_
          rintro e w1 ⟨rfl, b1⟩
          have BB := Lib.hid (Q.out.below.trans (b1.mono Q.out.below.size))
          have RB := Lib.hid (Q.out.res.after b1)
          have TC1 := Lib.hid (Q.out.tc.after b1)
          clear b1 R1
          go_wp2_with fail
          refine (T1.out _ BB.out TC1.out).mono ?_
          rintro e w2 ⟨r', rfl, hr', tc', b2⟩
          have RB2 := Lib.hid (RB.out.below b2 (by omega))
          have BB2 := Lib.hid (BB.out.trans (b2.mono (by omega)))
          have TC2 := Lib.hid tc'
          have HR2 := Lib.hid hr'
          clear b2 tc' hr' T1 TC1
          have QS : Hid (TQ w S ks (j + 1) r' w2) := Lib.hid ⟨BB2.out, TC2.out, RB2.out, by rw [HR.out, STEP.out, HR2.out], by rw [HR2.out]; have h1 := Q.out.n; have h2 := TN.out; show c'.n.length ≤ j + 1; exact Nat.le_trans h2 (by omega), fun _ h0 => by rw [HR2.out]; exact TM2.out h0⟩
          clear Q RB BB RB2 BB2 TC2 HR2
          go_wp2_with fail
          go_round
          case rel => exact ⟨j + 1, r', by go_num, by omega, QS⟩
          case measure => simp [intOf]; omega
    · have hjn : j = n := by omega
      subst hjn
      have RE := Lib.hid (show R = (r.c, 0) by rw [← HR.out, Q.out.is]; exact TE.out r.c)
      clear RD RG TL KS TE TS HL
      obtain ⟨⟨z0, z1, z2, z3, z4, z5⟩, f0, f1, f2, f3, f4, f5⟩ := Q.out.res.clc
      obtain ⟨⟨y0, y1, y2, y3, y4, y5⟩, -⟩ := Q.out.tc.blk.clc
      go_wp2_with fail
      have Z := six_blk (show Blk (w.heap.size + 1) #[.int .i64 0, .int .i64 0, .slice none 0 0, .slice none 0 0, .slice none 0 0, .int .u64 0] 59 _ from Q.out.res) (.int .i64 r.c.id) (.int .i64 r.c.map) (.slice r.ka r.c.k.length r.kc) (.slice r.va r.c.v.length r.vc) (.slice r.na r.c.n.length r.nc) (.int .u64 r.c.ret)
      have ZB := six_below Q.out.below (show w.heap.size ≤ w.heap.size + 1 by omega) (.int .i64 r.c.id) (.int .i64 r.c.map) (.slice r.ka r.c.k.length r.kc) (.slice r.va r.c.v.length r.vc) (.slice r.na r.c.n.length r.nc) (.int .u64 r.c.ret)
      have CN := (Q.out.tc.six (.int .i64 r.c.id) (.int .i64 r.c.map) (.slice r.ka r.c.k.length r.kc) (.slice r.va r.c.v.length r.vc) (.slice r.na r.c.n.length r.nc) (.int .u64 r.c.ret)).mono (show w.heap.size ≤ w.heap.size + 1 + 1 by omega)
      have OKR := Q.out.tc.ok
      obtain ⟨⟨r0, r1, r2, r3, r4, r5⟩, -⟩ := Blk.six Z
      unfold six at r0 r1 r2 r3 r4 r5 ZB CN
      exact bodyPost_ret (v := .tuple #[.agg #[.int .i64 r.c.id, .int .i64 r.c.map, .slice r.ka r.c.k.length r.kc, .slice r.va r.c.v.length r.vc, .slice r.na r.c.n.length r.nc, .int .u64 r.c.ret], .int .i64 0]) (by simp [results, Tryz.results108, go_sem, r0, r1, r2, r3, r4, r5]) rfl ⟨r, by rw [RE.out]; rfl, by rw [RE.out], OKR, CN, ZB⟩
end Go.Proofs.YtlbhffdpklbhfaaGreat
