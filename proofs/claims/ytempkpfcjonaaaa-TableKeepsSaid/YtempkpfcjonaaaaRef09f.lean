/-
  Layer 9's own Put.
  Conditions: the numbers fit their kinds; few areas; the bytes are not of memory.
-/
import Derived.Test.YtempkpfcjonaaaaStepApp
import Derived.Test.YtempkpfcjonaaaaRef09e
import Derived.Test.YtempkpfcjonaaaaRef08m
import Derived.Deep.RegionHeld
import Derived.Deep.RegionHeld3
import Derived.Deep.DeepCutAuto
namespace Go.Proofs.Ytempkpfcjonaaaa
open Go.RowKit
set_option maxRecDepth 100000
set_option linter.unusedVariables false
set_option linter.unusedSimpArgs false

/-- Maps and memory have become other ones, and one answer is told. -/
def PutW (gt g2 : Nat) (F G : Nat → Prop) (r : TP) (w : World) (e : Ending) (w' : World) : Prop :=
  e = .returned (.tuple #[.int .u64 r.n, .int .i64 r.e]) ∧ ∃ F' G', RepB w' gt g2 r.T r.M F' G' ∧ Turn (fun x => F x ∨ G x) w w' ∧ (∀ x, F' x → F x ∨ w.heap.size ≤ x) ∧ ∀ x, G' x → G x ∨ w.heap.size ≤ x
theorem putW_same {w w' : World} {gt g2 : Nat} {T : TT} {M : PM} {F G : Nat → Prop} {n e : Int} (h : RepB w gt g2 T M F G) (b : Below w.heap.size w w') : PutW gt g2 F G ⟨T, M, n, e⟩ w (.returned (.tuple #[.int .u64 n, .int .i64 e])) w' :=
  ⟨rfl, F, G, h.after b, Turn.of_below b, fun x hx => .inl hx, fun x hx => .inl hx⟩
theorem trC_set5 {L : List TR} {k : Nat} (hk : k < L.length) (K : List TK) (v : Value) (m : Nat) : trC (L.set k ⟨⟨(trAt L k).m.d, K, m⟩, v⟩) = ((trC L).set (k * 6 + 4) v).set (k * 6 + 5) (.int .i64 (m : Int)) := by
  apply List.ext_getElem?
  intro j
  by_cases hj : j < L.length * 6
  · have e1 : j = (j / 6) * 6 + j % 6 := by omega
    have h1 := trC_at (L.set k ⟨⟨(trAt L k).m.d, K, m⟩, v⟩) (j / 6) (j % 6) (by rw [List.length_set]; omega) (by omega)
    have h2 := trC_at L (j / 6) (j % 6) (by omega) (by omega)
    rw [← e1] at h1 h2
    rw [h1, trAt_set hk, List.getElem?_set]
    by_cases hq : j / 6 = k
    · rw [if_pos hq]
      by_cases hr : j % 6 = 5
      · rw [if_pos (by omega), if_pos (by rw [List.length_set, trC_len]; omega), hr]; rfl
      · rw [if_neg (by omega), List.getElem?_set]
        by_cases hr4 : j % 6 = 4
        · rw [if_pos (by omega), if_pos (by rw [trC_len]; omega), hr4]; rfl
        · rw [if_neg (by omega), h2, hq]
          have : j % 6 = 0 ∨ j % 6 = 1 ∨ j % 6 = 2 ∨ j % 6 = 3 := by omega
          rcases this with c | c | c | c <;> rw [c] <;> rfl
    · rw [if_neg hq, if_neg (by omega), List.getElem?_set, if_neg (by omega), h2]
  · rw [List.getElem?_eq_none (by rw [trC_len, List.length_set]; omega), List.getElem?_eq_none (by rw [List.length_set, List.length_set, trC_len]; omega)]

set_option maxHeartbeats 4000000 in
theorem r9_Put_no (w : World) (gt g2 : Nat) (T : TT) (M : PM) (F G : Nat → Prop) (i : Int) (key val : List Int) (B C : Option Addr) (n d m c : Nat) (fl : Int) (h : RepB w gt g2 T M F G) (hn : key.length = n) (hnd : n ≤ d) (hm : tMay T i key = false) :
    Calls Try.prog 36 #[.pointer (some ⟨gt, 0, none⟩), .int .i64 i, .slice B n d, .slice C m c, .int .u64 fl] w (PutW gt g2 F G ⟨T, M, 0, 1⟩ w) := by
  have MA := Lib.hid (r9_may w gt g2 T F i key B n d h.maps hn hnd)
  rw [hm] at MA
  have H := Lib.hid h
  clear h hm
  go_enter Try.func36, Try.ntmps36
  go_wp2_with fail
  refine (MA.out).mono ?_
  rintro e w1 ⟨rfl, b1⟩
  have V := Lib.hid b1
  clear b1
  go_wp2_with fail
  go_ret2
  exact putW_same H.out V.out

/-- What is known of a map in the row, in whatever world. -/
theorem RepT.see {u : World} {gt g2 gl k lk ck c : Nat} {L : List TR} {vl : Value} {F : Nat → Prop} {A : Option Addr} (hR : RepT u gt g2 vl L F) (hk : k < L.length) (hvl : vl = .slice (some ⟨gl, 0, none⟩) L.length c) (hv : (trAt L k).v = .slice A lk ck) :
    u.cell? ⟨gt, 0, none⟩ = some (.pointer (some ⟨g2, 0, none⟩)) ∧ u.cell? ⟨gt, 1, none⟩ = some (.slice (some ⟨gl, 0, none⟩) L.length c) ∧ u.cell? ⟨gl, k * 6, none⟩ = some (.bool (trAt L k).m.d.hash) ∧ u.cell? ⟨gl, k * 6 + 1, none⟩ = some (.int .i64 (trAt L k).m.d.key) ∧ u.cell? ⟨gl, k * 6 + 2, none⟩ = some (.int .i64 (trAt L k).m.d.val) ∧ u.cell? ⟨gl, k * 6 + 3, none⟩ = some (.int .i64 (trAt L k).m.d.max) ∧
    u.cell? ⟨gl, k * 6 + 4, none⟩ = some (.slice A lk ck) ∧ u.cell? ⟨gl, k * 6 + 5, none⟩ = some (.int .i64 ((trAt L k).m.made : Int)) ∧ u.frozen? ⟨gl, k * 6 + 4, none⟩ = false ∧ u.frozen? ⟨gl, k * 6 + 5, none⟩ = false ∧ KeyS u A (trAt L k).m.L := by
  obtain ⟨c0, c1⟩ := hR.cells
  rw [hvl] at c1
  obtain ⟨gl', c', hv', -, -, hg, e0, e1, e2, e3, e4, e5⟩ := hR.at_ hk
  rw [hvl] at hv'
  injection hv' with hA hl hc
  injection hA with hA
  injection hA with hA1 hA2
  subst hA1
  rw [hv] at e4
  have ho := hR.own k hk
  unfold KOwn at ho
  rw [hv] at ho
  have hlk : lk = (trAt L k).m.L.length := by
    obtain ⟨A2, c2, e, _, _⟩ := own_slice ho
    injection e
  rw [hlk] at ho
  have hrow := hR.row
  rw [hvl] at hrow
  exact ⟨c0, c1, e0, e1, e2, e3, e4, e5, hrow.frozenAt _, hrow.frozenAt _, own_keyS rfl ho⟩

theorem pMake_err (M : PM) (i : Int) (b : List Int) (bl fx : Bool) (h : (pMake M i b bl fx).2 ≠ 0) : (pMake M i b bl fx).1 = M := by
  unfold pMake at *
  split
  · rfl
  · split
    · rfl
    · rename_i h1 h2
      rw [if_neg h1, if_neg h2] at h
      exact absurd rfl h
/-- Maps, memory and a variable, while a key is being put. -/
structure PutS (w : World) (gt g2 : Nat) (vl : Value) (L : List TR) (F G : Nat → Prop) (M : PM) (u : World) (G' : Nat → Prop) (gx : Nat) (cs : Array Value) : Prop where
  maps : RepT u gt g2 vl L F
  mem : RepR u g2 M G'
  apart : ∀ x, F x → ¬ G' x
  turn : Turn G w u
  foot : ∀ x, G' x → G x ∨ w.heap.size ≤ x
  var : Blk gx cs 85 u
  new : w.heap.size ≤ gx
  out : ¬ G' gx
theorem PutS.after {w u u' : World} {gt g2 gx : Nat} {vl : Value} {L : List TR} {F G G' : Nat → Prop} {M : PM} {cs : Array Value} (h : PutS w gt g2 vl L F G M u G' gx cs) (b : Below u.heap.size u u') : PutS w gt g2 vl L F G M u' G' gx cs :=
  ⟨h.maps.after b, h.mem.after b, h.apart, h.turn.next b, h.foot, h.var.after b, h.new, h.out⟩
theorem PutS.store {w u u' : World} {gt g2 gx : Nat} {vl : Value} {L : List TR} {F G G' : Nat → Prop} {M M' : PM} {cs : Array Value} {v : Value} {e : Ending} (h : PutS w gt g2 vl L F G M u G' gx cs) (hF : ∀ x, F x → x < w.heap.size) (hw : MemW RepR g2 G' M' v u e u') : e = .returned v ∧ ∃ G2, PutS w gt g2 vl L F G M' u' G2 gx cs := by
  obtain ⟨he, G2, r, t, hG⟩ := hw
  have hs := h.turn.size
  have hgx := h.var.lt
  refine ⟨he, G2, h.maps.keep (fun x hx => t.block x (h.maps.lt hx) (h.apart x hx)), r, fun x hx hG2 => ?_, h.turn.trans t h.foot, fun x hx => ?_, Blk.same h.var (t.block gx hgx h.out), h.new, fun hx => ?_⟩
  · rcases hG x hG2 with c | c
    · exact h.apart x hx c
    · have := hF x hx; omega
  · rcases hG x hx with c | c
    · exact h.foot x c
    · exact .inr (by omega)
  · rcases hG gx hx with c | c
    · exact h.out c
    · omega
theorem cell_setCell_off (w : World) (g a b : Nat) (v : Value) (h : b ≠ a) : (w.setCell ⟨g, a, none⟩ v).cell? ⟨g, b, none⟩ = w.cell? ⟨g, b, none⟩ := by
  unfold World.cell? World.setCell
  simp only [Array.getElem?_modify]
  cases hx : w.heap[g]? with
  | none => simp
  | some o => cases o <;> simp <;> (try rw [Array.getElem?_setIfInBounds_ne (by omega)])
/-- A key has been put among the others. -/
theorem put_done {w w1 u : World} {gt g2 gl gx k md c : Nat} {vl v : Value} {L : List TR} {F G G' : Nat → Prop} {M : PM} {cs : Array Value} {KL : List TK} (q : PutS w gt g2 vl L F G M w1 G' gx cs) (hk : k < L.length) (hvl : vl = .slice (some ⟨gl, 0, none⟩) L.length c)
    (ho : u.ownsRow w1.heap.size 88 2 v KL.length (kC KL)) (hok : TM.ok ⟨(trAt L k).m.d, KL, md + 1⟩) (hb : Below w1.heap.size w1 u) :
    PutW gt g2 F G ⟨(trM L).set k ⟨(trAt L k).m.d, KL, md + 1⟩, M, 0, 0⟩ w (.returned (.tuple #[.int .u64 0, .int .i64 0])) ((u.setCell ⟨gl, k * 6 + 4, none⟩ v).setCell ⟨gl, k * 6 + 5, none⟩ (.int .i64 ((md : Int) + 1))) := by
  have hu := q.maps.after hb
  have hgl : F gl := q.maps.foot1 (by rw [hvl]; rfl)
  have hgl1 : gl < w1.heap.size := q.maps.lt hgl
  have hsz := q.turn.size
  have un : ∀ x, x ≠ gl → ((u.setCell ⟨gl, k * 6 + 4, none⟩ v).setCell ⟨gl, k * 6 + 5, none⟩ (.int .i64 ((md : Int) + 1))).heap[x]? = u.heap[x]? := fun x hx =>
    (Below.heap_setCell _ ⟨gl, k * 6 + 5, none⟩ _ _ hx).trans (Below.heap_setCell _ ⟨gl, k * 6 + 4, none⟩ _ _ hx)
  have hwb : ∀ x, v.ownBlock = some x → w1.heap.size ≤ x := fun x hx => (ho.lt x hx).1
  obtain ⟨F', q1, q2⟩ := RepT.put (u := (u.setCell ⟨gl, k * 6 + 4, none⟩ v).setCell ⟨gl, k * 6 + 5, none⟩ (.int .i64 ((md : Int) + 1))) (r := ⟨⟨(trAt L k).m.d, KL, md + 1⟩, v⟩) q.maps hk
    (fun x hx hne => (un x (fun e => hne (by rw [hvl, e]; rfl))).trans (hb.block x (q.maps.lt hx)))
    (by
      rw [trC_set5 hk]
      have hrow := hu.row
      rw [hvl] at hrow ⊢
      exact ((hrow.stored (k * 6 + 4) v).1.stored (k * 6 + 5) (.int .i64 ((md + 1 : Nat) : Int))).1)
    (by
      unfold KOwn
      refine own_base (own_same ho (fun x hx => un x (fun e => ?_))) (fun _ _ => Nat.zero_le _)
      have := hwb x hx
      omega)
    hwb hok
  have hG1 : ∀ x, G' x → x < w1.heap.size := fun x hx => q.mem.lt hx
  have hM : RepR ((u.setCell ⟨gl, k * 6 + 4, none⟩ v).setCell ⟨gl, k * 6 + 5, none⟩ (.int .i64 ((md : Int) + 1))) g2 M G' := by
    obtain ⟨vm, LM, e, hm⟩ := q.mem
    exact ⟨vm, LM, e, hm.keep fun x hx => (un x (fun e => q.apart gl hgl (by rw [← e]; exact hx))).trans (hb.block x (hm.lt hx))⟩
  refine ⟨rfl, F', G', ⟨⟨vl, _, by simp only [trM, List.map_set], q1⟩, hM, fun x hx hg => ?_⟩, ?_, fun x hx => (q2 x hx).imp id (fun h => by omega), q.foot⟩
  · rcases q2 x hx with c | c
    · exact q.apart x c hg
    · have := hG1 x hg; omega
  · have t1 : Turn (fun x => F x ∨ G x) w u := (q.turn.mono (fun x hx => .inl (.inr hx))).next hb
    exact (t1.setCell (p := ⟨gl, k * 6 + 4, none⟩) (.inl (.inl hgl)) v).setCell (p := ⟨gl, k * 6 + 5, none⟩) (.inl (.inl hgl)) _
/-- An append whose run is known, as one step of a region that draws its order. -/
theorem keyS_blk {u : World} {b md : Nat} {key : List Int} {t : TypeId} (h : Blk b #[.string (strOfNums key), .int .i64 (md : Int)] t u) : KeyS u (some ⟨b, 0, none⟩) [⟨key, md⟩] := fun _ => ⟨b, 0, rfl, h.lt, fun k hk => by
  have : k = 0 := by simpa using hk
  subst this
  exact ⟨h.cell 0, h.cell 1⟩⟩
theorem below_alloc' {w w' : World} (h : Below w.heap.size w w') (o : Obj) : Below w.heap.size w (w'.alloc o) := h.alloc h.size o

set_option maxHeartbeats 8000000 in
theorem r9_Put_yes (w : World) (gt g2 : Nat) (L : List TR) (vl : Value) (M : PM) (F G : Nat → Prop) (k : Nat) (key val : List Int) (B C : Option Addr) (n d m c : Nat) (fl : Int) (h : RepB w gt g2 (trM L) M F G) (hT : RepT w gt g2 vl L F) (hk : k < L.length) (hk1 : L.length ≤ 1000)
    (hb : Keep G w B key) (hob : OkB key) (hn : key.length = n) (hnd : n ≤ d) (hv : Keep G w C val) (hov : OkB val) (hvn : val.length = m) (hmc : m ≤ c) (hcm : c ≤ maxLen) (hfl : 0 ≤ fl ∧ fl ≤ 18446744073709551615) (hM : M.length ≤ 100000) (hm : tMay (trM L) k key = true) (R : TP) (hR : tPut (trM L) M k key val fl = R) :
    Calls Try.prog 36 #[.pointer (some ⟨gt, 0, none⟩), .int .i64 (k : Int), .slice B n d, .slice C m c, .int .u64 fl] w (PutW gt g2 F G R w) := by
  have MA := Lib.hid (r9_may w gt g2 (trM L) F k key B n d h.maps hn hnd)
  rw [hm] at MA
  have FI : Hid (∀ u, Below w.heap.size w u → Calls Try.prog 54 #[.pointer (some ⟨gt, 0, none⟩), .int .i64 (k : Int), .slice B n d] u (Gives (.int .i64 (slotI (tFind (trAt L k).m.L key))) u)) := Lib.hid fun u b => by
    rw [← trM_at]
    exact r9_find u gt g2 (trM L) F k key B n d (h.maps.after b) (by rw [trM_len]; exact hk) ((hb.at_).after b) hob hn hnd
  have hok := h.maps.ok k (by rw [trM_len]; exact hk)
  have hsm := fun s => find_small h.maps.ok (by rw [trM_len]; exact hk : k < (trM L).length) (key := key) (s := s)
  rw [trM_at] at hok hsm
  have MI : Hid (∀ x : Int, 1 ≤ x ∧ x ≤ 100 → ∀ u, Calls Try.prog 53 #[.int .u64 x] u (Gives (.int .u64 (minusI x)) u)) := Lib.hid fun x hx u => r9_minus x u ⟨hx.1, by omega⟩
  obtain ⟨gl, cl, hvl, k1, k2, -⟩ := hT.at_ hk
  obtain ⟨A, ck, hvk, kk1, kk2, -⟩ := hT.keys hk
  have hgood := hok.good
  have hval : 8 ≤ (trAt L k).m.d.val ∧ (trAt L k).m.d.val ≤ 64 ∧ (trAt L k).m.d.max ≤ 16 := by
    unfold Df.good at hgood
    simp only [Bool.and_eq_true, decide_eq_true_eq] at hgood
    omega
  have hfew := hok.few
  have hK16 : (trAt L k).m.L.length ≤ 16 := by omega
  have H := Lib.hid h
  have HT : Hid (∀ u, Below w.heap.size w u → RepT u gt g2 vl L F) := Lib.hid fun u b => hT.after b
  have HAF : Hid ((A = none ∧ (trAt L k).m.L.length = 0 ∧ ck = 0) ∨ ∃ gk, A = some ⟨gk, 0, none⟩) := Lib.hid (by
    have ho := hT.own k hk
    unfold KOwn at ho
    rw [hvk] at ho
    rcases ho.2 with ⟨h1, h2⟩ | ⟨g, cap, cur, h1, _⟩
    · injection h1 with a b c; exact .inl ⟨a, b, c⟩
    · injection h1 with a b c; exact .inr ⟨g, a⟩)
  have HKEYS : Hid (∀ j, j < (trAt L k).m.L.length → OkB (kAt (trAt L k).m.L j).k) := Lib.hid fun j hj => (hok.keys _ (kAt_mem hj)).1
  have HGT : Hid (gt ≠ gl) := Lib.hid fun e => by
    have := hT.apart 0 1 gt rfl (by rw [hvl, e]; rfl)
    omega
  have HVL := Lib.hid hvl
  have SEE : Hid (∀ u, RepT u gt g2 vl L F → _) := Lib.hid fun u hu => hu.see hk hvl hvk
  unfold tPut at hR
  rw [hm] at hR
  rw [Int.toNat_natCast, trM_at, hvn] at hR
  dsimp only at hR
  have HRR := Lib.hid hR
  have HMAY := Lib.hid hm
  have HOK := Lib.hid hok
  have HSM := Lib.hid hsm
  have HK := Lib.hid hb
  have HV := Lib.hid hv
  have HOV := Lib.hid (And.intro hov hvn)
  clear h hT hm hb hv hov hR hok hgood hsm hvl hvk
  unfold maxLen at k2 kk2
  have hk' : (k : Int) < L.length := by omega
  have k0 : (0 : Int) ≤ k := by omega
  go_enter Try.func36, Try.ntmps36
  go_wp2_with fail
  refine (MA.out).mono ?_
  rintro e w1 ⟨rfl, b1⟩
  have V := Lib.hid b1
  clear b1 MA
  obtain ⟨c0, c1, e0, e1, e2, e3, e4, e5, f4, f5, KS⟩ := SEE.out w1 (HT.out w1 V.out)
  cases hlen : ((m : Int) == (trAt L k).m.d.val)
  · have HE : Hid (R = ⟨trM L, M, 0, 1⟩) := Lib.hid (by
      rw [← HRR.out, hlen]
      rfl)
    have hne : ((m : Int) != (trAt L k).m.d.val) = true := by unfold bne; rw [hlen]; rfl
    clear KS e0 e1 e3 e4 e5 f4 f5 c0
    generalize (trAt L k).m.d.val = dv at *
    go_wp2_with fail
    go_ret2
    rw [HE.out]
    exact putW_same H.out V.out
  have hne : ((m : Int) != (trAt L k).m.d.val) = false := by unfold bne; rw [hlen]; rfl
  rw [hlen] at HRR
  have HR2 := Lib.hid HRR.out
  rw [if_pos (by simp)] at HR2
  clear HRR
  have hmv : (m : Int) = (trAt L k).m.d.val := by simpa using hlen
  clear hlen c0 e0 e1 e3 e4 e5 f4 f5 KS
  go_wp2_with fail
  refine (FI.out _ V.out).mono ?_
  rintro e w2 ⟨rfl, b2⟩
  replace V := Lib.hid (below_next' V.out b2)
  clear b2 FI c1 e2 hne
  obtain ⟨c0, c1, e0, e1, e2, e3, e4, e5, f4, f5, KS⟩ := SEE.out w2 (HT.out w2 V.out)
  have BX : Hid (Blk w2.heap.size #[.bool (trAt L k).m.d.hash, .int .i64 (trAt L k).m.d.key, .int .i64 (trAt L k).m.d.val, .int .i64 (trAt L k).m.d.max, .slice A (trAt L k).m.L.length ck, .int .i64 ((trAt L k).m.made : Int)] 85 (w2.alloc (.cells #[.bool (trAt L k).m.d.hash, .int .i64 (trAt L k).m.d.key, .int .i64 (trAt L k).m.d.val, .int .i64 (trAt L k).m.d.max, .slice A (trAt L k).m.L.length ck, .int .i64 ((trAt L k).m.made : Int)] 85))) := Lib.hid (Blk.new w2 _ _ rfl)
  have VX := Lib.hid (below_alloc V.out (.cells #[.bool (trAt L k).m.d.hash, .int .i64 (trAt L k).m.d.key, .int .i64 (trAt L k).m.d.val, .int .i64 (trAt L k).m.d.max, .slice A (trAt L k).m.L.length ck, .int .i64 ((trAt L k).m.made : Int)] 85))
  have GX : Hid (w.heap.size ≤ w2.heap.size) := Lib.hid V.out.size
  clear V KS c0 f4 f5
  go_upto_region 5 with fail
  clear c1 e0 e1 e2 e3 e4 e5
  generalize hgx : w2.heap.size = gx at *
  generalize hwx : w2.alloc (.cells #[.bool (trAt L k).m.d.hash, .int .i64 (trAt L k).m.d.key, .int .i64 (trAt L k).m.d.val, .int .i64 (trAt L k).m.d.max, .slice A (trAt L k).m.L.length ck, .int .i64 ((trAt L k).m.made : Int)] 85) = u at *
  clear hgx hwx
  have x0 := BX.out.cell 0
  have x3 := BX.out.cell 3
  have x4 := BX.out.cell 4
  have x5 := BX.out.cell 5
  by_cases hf2 : 2 < fl
  · have HE : Hid (R = ⟨trM L, M, minusI 22, 0⟩) := Lib.hid (by rw [← HR2.out, if_pos hf2])
    have MX := Lib.hid (MI.out 22 (by omega))
    generalize minusI 22 = mi at *
    clear HR2 HOK
    go_wp2_with fail
    refine (MX.out _).mono ?_
    rintro e w3 ⟨rfl, b3⟩
    have V3 := Lib.hid (below_next' VX.out b3)
    clear b3
    go_wp2_with fail
    go_ret2
    rw [HE.out]
    exact putW_same H.out V3.out
  have hf2' : fl ≤ 2 := by omega
  have HR3 := Lib.hid HR2.out
  rw [if_neg hf2] at HR3
  clear HR2 hf2
  have HR2 := HR3
  clear HR3
  cases hs : tFind (trAt L k).m.L key with
  | some s =>
    have hs1 := HSM.out s hs
    rw [hs] at HR2
    dsimp only at HR2
    rw [show slotI (some s) = (s : Int) from rfl]
    clear hs HSM
    have s0 : (0 : Int) ≤ s := by omega
    by_cases hf1 : fl = 1
    · subst hf1
      have HE : Hid (R = ⟨trM L, M, minusI 17, 0⟩) := Lib.hid (by rw [← HR2.out, if_pos rfl])
      have MX := Lib.hid (MI.out 17 (by omega))
      generalize minusI 17 = mi at *
      clear HR2 HOK
      go_wp2_with fail
      refine (MX.out _).mono ?_
      rintro e w3 ⟨rfl, b3⟩
      have V3 := Lib.hid (below_next' VX.out b3)
      clear b3
      go_wp2_with fail
      go_ret2
      rw [HE.out]
      exact putW_same H.out V3.out
    have hf1' : (fl == 1) = false := by simpa using hf1
    have FILL := Lib.hid (r9_fill u gt g2 (trM L) M F G k s val C m c (H.out.after VX.out) (by omega) (by omega) (HV.out.on (Turn.of_below VX.out) (fun x hx => .inl hx)) HOV.out.1 HOV.out.2 hmc (by omega))
    have HE : Hid (R = ⟨trM L, tFill M k s 0 val, 0, 0⟩) := Lib.hid (by rw [← HR2.out, if_neg hf1])
    have HEND : Hid (∀ u', (∃ G', FillW u gt g2 (trM L) F G (tFill M k s 0 val) u' G') → PutW gt g2 F G R w (.returned (.tuple #[.int .u64 0, .int .i64 0])) u') := Lib.hid (by
      rintro u' ⟨G', q⟩
      rw [HE.out]
      have hsz := VX.out.size
      exact ⟨rfl, F, G', q.rep, ((Turn.of_below VX.out).trans q.turn (fun x hx => .inl (.inr hx))), fun x hx => .inl hx, fun x hx => (q.foot x hx).imp id (fun h => by omega)⟩)
    clear HR2 HOK HE
    go_wp2_with fail
    refine (FILL.out).mono ?_
    rintro e w3 ⟨rfl, q3⟩
    have Q3 := Lib.hid (HEND.out w3 q3)
    clear q3 HEND FILL
    go_wp2_with fail
    go_ret2
    exact Q3.out
  | none =>
    rw [show slotI none = -1 from rfl]
    rw [hs] at HR2
    dsimp only at HR2
    cases hh : (trAt L k).m.d.hash
    · rw [hh] at x0
      have HE : Hid (R = ⟨trM L, M, minusI 7, 0⟩) := Lib.hid (by rw [← HR2.out, if_pos hh])
      have MX := Lib.hid (MI.out 7 (by omega))
      generalize minusI 7 = mi at *
      clear HR2 HOK
      go_wp2_with fail
      refine (MX.out _).mono ?_
      rintro e w3 ⟨rfl, b3⟩
      have V3 := Lib.hid (below_next' VX.out b3)
      clear b3
      go_wp2_with fail
      go_ret2
      rw [HE.out]
      exact putW_same H.out V3.out
    rw [hh] at x0
    have HR3 := Lib.hid HR2.out
    rw [if_neg (by rw [hh]; simp)] at HR3
    clear HR2
    have HR2 := HR3
    clear HR3
    by_cases hf1 : fl = 2
    · subst hf1
      have HE : Hid (R = ⟨trM L, M, minusI 2, 0⟩) := Lib.hid (by rw [← HR2.out, if_pos rfl])
      have MX := Lib.hid (MI.out 2 (by omega))
      generalize minusI 2 = mi at *
      clear HR2 HOK
      go_wp2_with fail
      refine (MX.out _).mono ?_
      rintro e w3 ⟨rfl, b3⟩
      have V3 := Lib.hid (below_next' VX.out b3)
      clear b3
      go_wp2_with fail
      go_ret2
      rw [HE.out]
      exact putW_same H.out V3.out
    have hf1' : (fl == 2) = false := by simpa using hf1
    have HR3 := Lib.hid HR2.out
    rw [if_neg hf1] at HR3
    clear HR2 hf1
    have HR2 := HR3
    clear HR3
    by_cases hmx : (trAt L k).m.d.max ≤ ((trAt L k).m.L.length : Int)
    · have HE : Hid (R = ⟨trM L, M, minusI 7, 0⟩) := Lib.hid (by rw [← HR2.out, if_pos hmx])
      have MX := Lib.hid (MI.out 7 (by omega))
      generalize minusI 7 = mi at *
      clear HR2 HOK
      go_wp2_with fail
      refine (MX.out _).mono ?_
      rintro e w3 ⟨rfl, b3⟩
      have V3 := Lib.hid (below_next' VX.out b3)
      clear b3
      go_wp2_with fail
      go_ret2
      rw [HE.out]
      exact putW_same H.out V3.out
    have hmx' : ((trAt L k).m.L.length : Int) < (trAt L k).m.d.max := by omega
    have HR3 := Lib.hid HR2.out
    rw [if_neg hmx] at HR3
    clear HR2
    have HR2 := HR3
    clear HR3
    by_cases hmd : 1024 ≤ (trAt L k).m.made
    · have hmd' : (1024 : Int) ≤ ((trAt L k).m.made : Int) := by omega
      have HE : Hid (R = ⟨trM L, M, minusI 12, 0⟩) := Lib.hid (by rw [← HR2.out, if_pos hmd])
      have MX := Lib.hid (MI.out 12 (by omega))
      generalize minusI 12 = mi at *
      clear HR2 HOK
      go_wp2_with fail
      refine (MX.out _).mono ?_
      rintro e w3 ⟨rfl, b3⟩
      have V3 := Lib.hid (below_next' VX.out b3)
      clear b3
      go_wp2_with fail
      go_ret2
      rw [HE.out]
      exact putW_same H.out V3.out
    have hmd' : ((trAt L k).m.made : Int) < 1024 := by omega
    have HR3 := Lib.hid HR2.out
    rw [if_neg hmd] at HR3
    clear HR2
    have HR2 := HR3
    clear HR3
    have HIO := Lib.hid (tIns_ok HOK.out key hs hob (by have := (may_yes (T := trM L) (i := k) (key := key) HMAY.out).2.2; rw [Int.toNat_natCast, trM_at] at this; exact this) hmx hmd)
    clear HOK hs HSM
    have BXX := BX.out
    rw [hh] at BXX
    go_upto_region 20 with fail
    have Q : Hid (PutS w gt g2 vl L F G M u G gx #[.bool true, .int .i64 (trAt L k).m.d.key, .int .i64 (trAt L k).m.d.val, .int .i64 (trAt L k).m.d.max, .slice A (trAt L k).m.L.length ck, .int .i64 ((trAt L k).m.made : Int)]) := Lib.hid ⟨HT.out u VX.out, H.out.mem.after VX.out, H.out.apart, Turn.of_below VX.out, fun x hx => .inl hx, BXX, GX.out, fun hx => by have := H.out.mem.lt hx; have := GX.out; omega⟩
    have HFL : Hid (∀ x, F x → x < w.heap.size) := Lib.hid fun x hx => H.out.maps.lt hx
    have AR : Hid (∀ u, Calls Try.prog 22 #[.int .i64 (k : Int), .int .i64 ((trAt L k).m.made : Int)] u (Gives (.int .i64 (tArea k (trAt L k).m.made)) u)) := Lib.hid fun u => r9_Area k (trAt L k).m.made u (by omega) (by omega)
    have MK : Hid (∀ u, PutS w gt g2 vl L F G M u G gx #[.bool true, .int .i64 (trAt L k).m.d.key, .int .i64 (trAt L k).m.d.val, .int .i64 (trAt L k).m.d.max, .slice A (trAt L k).m.L.length ck, .int .i64 ((trAt L k).m.made : Int)] → Calls Try.prog 31 #[.pointer (some ⟨g2, 0, none⟩), .int .i64 (tArea k (trAt L k).m.made), .slice C m c, .bool false, .bool false] u (fun e u' => e = .returned (.int .i64 (pMake M (tArea k (trAt L k).m.made) val false false).2) ∧ ∃ G4, PutS w gt g2 vl L F G (pMake M (tArea k (trAt L k).m.made) val false false).1 u' G4 gx #[.bool true, .int .i64 (trAt L k).m.d.key, .int .i64 (trAt L k).m.d.val, .int .i64 (trAt L k).m.d.max, .slice A (trAt L k).m.L.length ck, .int .i64 ((trAt L k).m.made : Int)])) := Lib.hid fun u q => by
      have hz := HOV.out.2
      subst hz
      exact (r8_Make u g2 M G (tArea k (trAt L k).m.made) val C c false false q.mem (HV.out u q.turn) HOV.out.1 hmc hcm hM).mono fun e u' hw => q.store HFL.out hw
    have HS : Hid (∀ M' u G', PutS w gt g2 vl L F G M' u G' gx #[.bool true, .int .i64 (trAt L k).m.d.key, .int .i64 (trAt L k).m.d.val, .int .i64 (trAt L k).m.d.max, .slice A (trAt L k).m.L.length ck, .int .i64 ((trAt L k).m.made : Int)] → u.cell? ⟨gt, 0, none⟩ = some (.pointer (some ⟨g2, 0, none⟩)) ∧ u.cell? ⟨gx, 5, none⟩ = some (.int .i64 ((trAt L k).m.made : Int))) := Lib.hid fun M' u G' q => ⟨q.maps.cells.1, q.var.cell 5⟩
    clear BX VX x0 x3 x4 x5 H HT hmx hmd
    have hpe := pMake_err M (tArea k (trAt L k).m.made) val false false
    generalize hp1 : (pMake M (tArea k (trAt L k).m.made) val false false).1 = M4 at *
    generalize hp2 : (pMake M (tArea k (trAt L k).m.made) val false false).2 = e4 at *
    generalize (trAt L k).m.made = md at *
    generalize tArea k md = ar at *
    have HPE := Lib.hid hpe
    clear hpe hp1 hp2
    replace Q := Lib.hid (Q.out.after (Below.drew (Below.refl _ _)))
    refine wp_region_held_drew (S := fun w' => w'.cell? ⟨gt, 0, none⟩ = some (.pointer (some ⟨g2, 0, none⟩)) ∧ w'.cell? ⟨gx, 5, none⟩ = some (.int .i64 (md : Int))) (by kernel_rfl) (HS.out _ _ _ Q.out) (fun hHeld => ?_)
    refine wpAnyH_take (i := 0) (oi := { dst := some 96, op := Op.move (Operand.tmp 0), type := 35, pos := "ref.go:128", after := #[], guard := none }) (v := ?_) rfl (by kernel_rfl) (by kernel_rfl) (by kernel_rfl) (fun _ _ _ h => h) (Or.inl ⟨by rfl, ?_⟩) (by assumption) ?_
    rotate_left 1
    · intro w hSw; (try dsimp only at hSw); go_simp; try (with_reducible rfl)
    try simp only [Act.put, List.setIfInBounds_toArray, List.set_cons_zero, List.set_cons_succ]
    refine wpAnyH_take (i := 1) (oi := { dst := some 97, op := Op.nilCheck (Operand.tmp 96), type := 0, pos := "ref.go:128", after := #[{ on := 0, ground := Ground.data }], guard := none }) (v := ?_) rfl (by kernel_rfl) (by kernel_rfl) (by kernel_rfl) (fun _ _ _ h => h) (Or.inl ⟨by rfl, ?_⟩) (by assumption) ?_
    rotate_left 1
    · intro w hSw; (try dsimp only at hSw); go_simp; try (with_reducible rfl)
    try simp only [Act.put, List.setIfInBounds_toArray, List.set_cons_zero, List.set_cons_succ]
    refine wpAnyH_take (i := 2) (oi := { dst := some 98, op := Op.fieldAddr 82 (Operand.tmp 97) 0, type := 0, pos := "ref.go:128", after := #[{ on := 1, ground := Ground.data }], guard := none }) (v := ?_) rfl (by kernel_rfl) (by kernel_rfl) (by kernel_rfl) (fun _ _ _ h => h) (Or.inl ⟨by rfl, ?_⟩) (by assumption) ?_
    rotate_left 1
    · intro w hSw; (try dsimp only at hSw); go_simp; try (with_reducible rfl)
    try simp only [Act.put, List.setIfInBounds_toArray, List.set_cons_zero, List.set_cons_succ]
    refine wpAnyH_take (i := 3) (oi := { dst := some 99, op := Op.load 27 (Operand.tmp 98), type := 27, pos := "ref.go:128", after := #[{ on := 2, ground := Ground.data }], guard := none }) (v := ?_) rfl (by kernel_rfl) (by kernel_rfl) (by kernel_rfl) (fun _ _ _ h => h) (Or.inl ⟨by rfl, ?_⟩) (by assumption) ?_
    rotate_left 1
    · intro w hSw; (try dsimp only at hSw); go_simp; try (with_reducible rfl)
    try simp only [Act.put, List.setIfInBounds_toArray, List.set_cons_zero, List.set_cons_succ]
    refine wpAnyH_take (i := 4) (oi := { dst := some 100, op := Op.move (Operand.tmp 1), type := 3, pos := "ref.go:128", after := #[], guard := none }) (v := ?_) rfl (by kernel_rfl) (by kernel_rfl) (by kernel_rfl) (fun _ _ _ h => h) (Or.inl ⟨by rfl, ?_⟩) (by assumption) ?_
    rotate_left 1
    · intro w hSw; (try dsimp only at hSw); go_simp; try (with_reducible rfl)
    try simp only [Act.put, List.setIfInBounds_toArray, List.set_cons_zero, List.set_cons_succ]
    refine wpAnyH_take (i := 5) (oi := { dst := some 101, op := Op.fieldAddr 85 (Operand.tmp 13) 2, type := 0, pos := "ref.go:128", after := #[], guard := none }) (v := ?_) rfl (by kernel_rfl) (by kernel_rfl) (by kernel_rfl) (fun _ _ _ h => h) (Or.inl ⟨by rfl, ?_⟩) (by assumption) ?_
    rotate_left 1
    · intro w hSw; (try dsimp only at hSw); go_simp; try (with_reducible rfl)
    try simp only [Act.put, List.setIfInBounds_toArray, List.set_cons_zero, List.set_cons_succ]
    refine wpAnyH_take (i := 6) (oi := { dst := some 102, op := Op.load 3 (Operand.tmp 101), type := 3, pos := "ref.go:128", after := #[{ on := 5, ground := Ground.data }], guard := none }) (v := ?_) rfl (by kernel_rfl) (by kernel_rfl) (by kernel_rfl) (fun _ _ _ h => h) (Or.inl ⟨by rfl, ?_⟩) (by assumption) ?_
    rotate_left 1
    · intro w hSw; (try dsimp only at hSw); go_simp; try (with_reducible rfl)
    try simp only [Act.put, List.setIfInBounds_toArray, List.set_cons_zero, List.set_cons_succ]
    refine wpAnyH_take (i := 8) (oi := { dst := some 104, op := Op.move (Operand.tmp 3), type := 40, pos := "ref.go:128", after := #[], guard := none }) (v := ?_) rfl (by kernel_rfl) (by kernel_rfl) (by kernel_rfl) (fun _ _ _ h => h) (Or.inl ⟨by rfl, ?_⟩) (by assumption) ?_
    rotate_left 1
    · intro w hSw; (try dsimp only at hSw); go_simp; try (with_reducible rfl)
    try simp only [Act.put, List.setIfInBounds_toArray, List.set_cons_zero, List.set_cons_succ]
    refine wpAnyH_ready (rs := [7]) (by kernel_rfl) (by simp) ?_
    refine AllReadyH.cons (o := { dst := some 103, op := Op.call { callee := Callee.value (Operand.func 22), args := #[Operand.tmp 100, Operand.tmp 102], argTypes := #[3, 3] }, type := 3, pos := "ref.go:128", after := #[{ on := 4, ground := Ground.data }, { on := 6, ground := Ground.data }], guard := none }) rfl (fun K hK => ?_) AllReadyH.nil
    · skip
      go_simp
      refine (AR.out _).mono ?_; rintro e u1 ⟨rfl, b1⟩
      replace Q := Lib.hid (Q.out.after b1)
      clear b1
      go_wp2_with fail
      refine hK.out _ _ (HS.out _ _ _ Q.out) (fun hHeld => ?_)
      clear hK K
      try simp only [Act.put, List.setIfInBounds_toArray, List.set_cons_zero, List.set_cons_succ]
      refine wpAnyH_ready (rs := [9]) (by kernel_rfl) (by simp) ?_
      refine AllReadyH.cons (o := { dst := some 105, op := Op.call { callee := Callee.value (Operand.func 31), args := #[Operand.tmp 99, Operand.tmp 103, Operand.tmp 104, Operand.const (Value.bool false), Operand.const (Value.bool false)], argTypes := #[27, 3, 40, 4, 4] }, type := 32, pos := "ref.go:128", after := #[{ on := 3, ground := Ground.data }, { on := 7, ground := Ground.data }, { on := 8, ground := Ground.data }, { on := 7, ground := Ground.chain }], guard := none }) rfl (fun K hK => ?_) AllReadyH.nil
      · skip
        go_simp
        refine (MK.out _ Q.out).mono ?_; rintro e u3 ⟨rfl, G4, q4⟩
        replace Q := Lib.hid q4
        clear q4 hHeld
        have hHeld := HS.out _ _ _ Q.out
        go_wp2_with fail
        refine hK.out _ _ (HS.out _ _ _ Q.out) (fun hHeld => ?_)
        clear hK K
        try simp only [Act.put, List.setIfInBounds_toArray, List.set_cons_zero, List.set_cons_succ]
        refine wpAnyH_take (i := 10) (oi := { dst := some 14, op := Op.assign (Operand.tmp 105), type := 32, pos := "ref.go:128", after := #[{ on := 9, ground := Ground.data }, { on := 9, ground := Ground.chain }, { on := 0, ground := Ground.phase }, { on := 1, ground := Ground.phase }, { on := 2, ground := Ground.phase }, { on := 3, ground := Ground.phase }, { on := 4, ground := Ground.phase }, { on := 5, ground := Ground.phase }, { on := 6, ground := Ground.phase }, { on := 7, ground := Ground.phase }, { on := 8, ground := Ground.phase }, { on := 9, ground := Ground.phase }], guard := none }) (v := ?_) rfl (by kernel_rfl) (by kernel_rfl) (by kernel_rfl) (fun _ _ _ h => h) (Or.inl ⟨by rfl, ?_⟩) (by assumption) ?_
        rotate_left 1
        · intro w hSw; (try dsimp only at hSw); go_simp; try (with_reducible rfl)
        try simp only [Act.put, List.setIfInBounds_toArray, List.set_cons_zero, List.set_cons_succ]
        refine wpAnyH_done (by kernel_rfl) ?_ _
        clear hHeld HS AR MK
        by_cases he : e4 = 0
        · subst he
          have HE : Hid (R = ⟨(trM L).set k ⟨(trAt L k).m.d, tIns (trAt L k).m.L ⟨key, md⟩, md + 1⟩, M4, 0, 0⟩) := Lib.hid (by rw [← HR2.out, if_pos rfl])
          clear HR2 HPE
          have ST : Hid (∀ u, Turn G w u → (convert 40 9 (.slice B n d)).run Try.prog u = .ok (.string (strOfNums key)) u) := Lib.hid fun u t => by rw [← hn]; exact str_bytS (HK.out u t) d
          have HO := Lib.hid hob
          generalize hKK : (trAt L k).m.L = KY at *
          generalize hlk : KY.length = lk at *
          have HLK := Lib.hid hlk
          clear hKK hlk
          rcases HAF.out with ⟨rfl, hl0, hc0⟩ | ⟨gk, rfl⟩
          · subst hc0
            obtain rfl : KY = [] := List.eq_nil_of_length_eq_zero (by rw [HLK.out]; exact hl0)
            subst hl0
            have TI : Hid (tIns [] ⟨key, md⟩ = ([] : List TK).take 0 ++ ⟨key, md⟩ :: ([] : List TK).drop 0) := Lib.hid rfl
            have QD : Hid (∀ q, PutS w gt g2 vl L F G M4 (u3.drewN q) G4 gx #[.bool true, .int .i64 (trAt L k).m.d.key, .int .i64 (trAt L k).m.d.val, .int .i64 (trAt L k).m.d.max, .slice none 0 0, .int .i64 (md : Int)]) := Lib.hid fun q => Q.out.after (below_drewN (Below.refl _ _) q)
            have x4 := Q.out.var.cell 4
            go_wp2_with fail
            go_loop [15] (fun v => v = .int .i64 0) (fun v => 0)
            case atStart => rfl
            case round =>
              subst hrel
              go_wp2_with fail
              go_quiet (fail)
              have QN := Lib.hid (QD.out nq)
              clear QD Q x4
              generalize u3.drewN nq = wq at *
              have Q := QN
              clear QN
              have KS0 : Hid (∀ u, PutS w gt g2 vl L F G M4 u G4 gx #[.bool true, .int .i64 (trAt L k).m.d.key, .int .i64 (trAt L k).m.d.val, .int .i64 (trAt L k).m.d.max, .slice none 0 0, .int .i64 (md : Int)] → KeyS u none ([] : List TK)) := Lib.hid fun u q => (SEE.out u q.maps).2.2.2.2.2.2.2.2.2.2
              have Q1 : Hid (PutS w gt g2 vl L F G M4 (wq.alloc (.cells #[] 88)) G4 gx #[.bool true, .int .i64 (trAt L k).m.d.key, .int .i64 (trAt L k).m.d.val, .int .i64 (trAt L k).m.d.max, .slice none 0 0, .int .i64 (md : Int)]) := Lib.hid (Q.out.after (below_alloc (Below.refl _ _) _))
              have OW := World.ownsRow_made (base := wq.heap.size) (e := 88) (size := 2) wq #[] 0 (Nat.le_refl _) (Nat.zero_le _) rfl
              have KD : KeyS (wq.alloc (.cells #[] 88)) none (([] : List TK).drop 0) := fun h => absurd h (by simp)
              obtain ⟨v1, w1, hr1, ho1, hg1, g1, c1, rfl⟩ := append_keys (wq.alloc (.cells #[] 88)) wq.heap.size _ 0 [] none 0 0 (([] : List TK).drop 0) 83 OW KD (by simp) (by omega) (by omega) (by simp) ⟨_, _, rfl⟩
              simp only [Nat.zero_add, List.nil_append] at hr1 ho1
              have BW1 : Below wq.heap.size wq w1 := below_own (below_alloc (Below.refl _ _) _) OW (by simp) hg1
              have Q2 : Hid (PutS w gt g2 vl L F G M4 w1 G4 gx #[.bool true, .int .i64 (trAt L k).m.d.key, .int .i64 (trAt L k).m.d.val, .int .i64 (trAt L k).m.d.max, .slice none 0 0, .int .i64 (md : Int)]) := Lib.hid (Q.out.after BW1)
              have RO := Lib.hid ho1
              have GWQ : Hid (w.heap.size ≤ wq.heap.size ∧ wq.heap.size ≤ w1.heap.size) := Lib.hid ⟨Q.out.turn.size, BW1.size⟩
              have y4 := Q1.out.var.cell 4
              clear OW KD ho1 hg1 BW1 Q Q1
              go_wp2_with ((at_builtin; refine Lib.wpList_append_run _ rfl (.tmp 127) (.tmp 131) _ _ rfl _ _ rfl rfl _ _ hr1 ?_))
              clear hr1 y4
              go_upto_region 27 with fail
              have DONE : Hid (∀ u v, Below w1.heap.size w1 u → u.ownsRow w1.heap.size 88 2 v (0 + 1) (kC (tIns [] ⟨key, md⟩)) → PutW gt g2 F G R w (.returned (.tuple #[.int .u64 0, .int .i64 0])) ((u.setCell ⟨gl, k * 6 + 4, none⟩ v).setCell ⟨gl, k * 6 + 5, none⟩ (.int .i64 ((md : Int) + 1)))) := Lib.hid fun u v hb1 ho1 => by
                rw [HE.out]
                exact put_done Q2.out hk HVL.out (by rw [tIns_len]; exact ho1) HIO.out hb1
              have HS : Hid (∀ u, PutS w gt g2 vl L F G M4 u G4 gx #[.bool true, .int .i64 (trAt L k).m.d.key, .int .i64 (trAt L k).m.d.val, .int .i64 (trAt L k).m.d.max, .slice none 0 0, .int .i64 (md : Int)] → u.cell? ⟨gx, 4, none⟩ = some (.slice none 0 0) ∧ u.cell? ⟨gx, 5, none⟩ = some (.int .i64 (md : Int)) ∧ (convert 40 9 (.slice B n d)).run Try.prog u = .ok (.string (strOfNums key)) u) := Lib.hid fun u q => ⟨q.var.cell 4, q.var.cell 5, ST.out u q.turn⟩
              refine wp_region_held_drew (S := fun w' => w'.cell? ⟨gx, 4, none⟩ = some (.slice none 0 0) ∧ w'.cell? ⟨gx, 5, none⟩ = some (.int .i64 (md : Int)) ∧ (convert 40 9 (.slice B n d)).run Try.prog w' = .ok (.string (strOfNums key)) w') (by kernel_rfl) (HS.out _ (Q2.out.after (Below.drew (Below.refl _ _)))) (fun hHeld => ?_)
              refine wpAnyH_take (i := 1) (oi := { dst := some 134, op := Op.fieldAddr 85 (Operand.tmp 13) 1, type := 0, pos := "ref.go:137", after := #[], guard := none }) (v := ?_) rfl (by kernel_rfl) (by kernel_rfl) (by kernel_rfl) (fun _ _ _ h => h) (Or.inl ⟨by rfl, ?_⟩) (by assumption) ?_
              rotate_left 1
              · intro w hSw; (try dsimp only at hSw); go_simp; try (with_reducible rfl)
              try simp only [Act.put, List.setIfInBounds_toArray, List.set_cons_zero, List.set_cons_succ]
              refine wpAnyH_take (i := 2) (oi := { dst := some 135, op := Op.load 83 (Operand.tmp 134), type := 83, pos := "ref.go:137", after := #[{ on := 1, ground := Ground.data }], guard := none }) (v := ?_) rfl (by kernel_rfl) (by kernel_rfl) (by kernel_rfl) (fun _ _ _ h => h) (Or.inl ⟨by rfl, ?_⟩) (by assumption) ?_
              rotate_left 1
              · intro w hSw; (try dsimp only at hSw); go_simp; try (with_reducible rfl)
              try simp only [Act.put, List.setIfInBounds_toArray, List.set_cons_zero, List.set_cons_succ]
              refine wpAnyH_take (i := 3) (oi := { dst := some 136, op := Op.move (Operand.tmp 15), type := 3, pos := "ref.go:137", after := #[], guard := none }) (v := ?_) rfl (by kernel_rfl) (by kernel_rfl) (by kernel_rfl) (fun _ _ _ h => h) (Or.inl ⟨by rfl, ?_⟩) (by assumption) ?_
              rotate_left 1
              · intro w hSw; (try dsimp only at hSw); go_simp; try (with_reducible rfl)
              try simp only [Act.put, List.setIfInBounds_toArray, List.set_cons_zero, List.set_cons_succ]
              refine wpAnyH_take (i := 4) (oi := { dst := some 137, op := Op.slice 83 (Operand.tmp 135) none (some (Operand.tmp 136)) none, type := 83, pos := "ref.go:137", after := #[{ on := 2, ground := Ground.data }, { on := 3, ground := Ground.data }], guard := none }) (v := ?_) rfl (by kernel_rfl) (by kernel_rfl) (by kernel_rfl) (fun _ _ _ h => h) (Or.inl ⟨by rfl, ?_⟩) (by assumption) ?_
              rotate_left 1
              · intro w hSw; (try dsimp only at hSw); go_simp; try (with_reducible rfl)
              try simp only [Act.put, List.setIfInBounds_toArray, List.set_cons_zero, List.set_cons_succ]
              refine wpAnyH_take (i := 6) (oi := { dst := some 139, op := Op.move (Operand.tmp 2), type := 40, pos := "ref.go:137", after := #[], guard := none }) (v := ?_) rfl (by kernel_rfl) (by kernel_rfl) (by kernel_rfl) (fun _ _ _ h => h) (Or.inl ⟨by rfl, ?_⟩) (by assumption) ?_
              rotate_left 1
              · intro w hSw; (try dsimp only at hSw); go_simp; try (with_reducible rfl)
              try simp only [Act.put, List.setIfInBounds_toArray, List.set_cons_zero, List.set_cons_succ]
              refine wpAnyH_take (i := 7) (oi := { dst := some 140, op := Op.convert 40 9 (Operand.tmp 139), type := 9, pos := "ref.go:137", after := #[{ on := 6, ground := Ground.data }], guard := none }) (v := ?_) rfl (by kernel_rfl) (by kernel_rfl) (by kernel_rfl) (fun _ _ _ h => h) (Or.inl ⟨by rfl, ?_⟩) (by assumption) ?_
              rotate_left 1
              · intro w hSw; (try dsimp only at hSw); go_simp; try (with_reducible rfl)
              try simp only [Act.put, List.setIfInBounds_toArray, List.set_cons_zero, List.set_cons_succ]
              refine wpAnyH_take (i := 8) (oi := { dst := some 141, op := Op.fieldAddr 85 (Operand.tmp 13) 2, type := 0, pos := "ref.go:137", after := #[], guard := none }) (v := ?_) rfl (by kernel_rfl) (by kernel_rfl) (by kernel_rfl) (fun _ _ _ h => h) (Or.inl ⟨by rfl, ?_⟩) (by assumption) ?_
              rotate_left 1
              · intro w hSw; (try dsimp only at hSw); go_simp; try (with_reducible rfl)
              try simp only [Act.put, List.setIfInBounds_toArray, List.set_cons_zero, List.set_cons_succ]
              refine wpAnyH_take (i := 9) (oi := { dst := some 142, op := Op.load 3 (Operand.tmp 141), type := 3, pos := "ref.go:137", after := #[{ on := 8, ground := Ground.data }], guard := none }) (v := ?_) rfl (by kernel_rfl) (by kernel_rfl) (by kernel_rfl) (fun _ _ _ h => h) (Or.inl ⟨by rfl, ?_⟩) (by assumption) ?_
              rotate_left 1
              · intro w hSw; (try dsimp only at hSw); go_simp; try (with_reducible rfl)
              try simp only [Act.put, List.setIfInBounds_toArray, List.set_cons_zero, List.set_cons_succ]
              refine wpAnyH_take (i := 10) (oi := { dst := some 143, op := Op.build 88 #[(0, Operand.tmp 140), (1, Operand.tmp 142)], type := 88, pos := "ref.go:137", after := #[{ on := 7, ground := Ground.data }, { on := 9, ground := Ground.data }], guard := none }) (v := ?_) rfl (by kernel_rfl) (by kernel_rfl) (by kernel_rfl) (fun _ _ _ h => h) (Or.inl ⟨by rfl, ?_⟩) (by assumption) ?_
              rotate_left 1
              · intro w hSw; (try dsimp only at hSw); go_simp; try (with_reducible rfl)
              try simp only [Act.put, List.setIfInBounds_toArray, List.set_cons_zero, List.set_cons_succ]
              refine wpAnyH_ready (rs := [0, 11]) (by kernel_rfl) (by simp) ?_
              refine AllReadyH.cons (o := { dst := some 133, op := Op.buildSlice 83 0 #[], type := 83, pos := "ref.go:137", after := #[], guard := none }) rfl (fun K hK => ?_) (AllReadyH.cons (o := { dst := some 144, op := Op.buildSlice 83 1 #[(0, Operand.tmp 143)], type := 83, pos := "ref.go:137", after := #[{ on := 10, ground := Ground.data }], guard := none }) rfl (fun K hK => ?_) AllReadyH.nil)
              · skip
                go_simp
                refine hK.out _ _ (HS.out _ (Q2.out.after (Below.drew (below_alloc (Below.refl w1.heap.size w1) _)))) (fun hHeld => ?_)
                clear hK K
                try simp only [Act.put, List.setIfInBounds_toArray, List.set_cons_zero, List.set_cons_succ]
                refine wpAnyH_ready (rs := [5, 11]) (by kernel_rfl) (by simp) ?_
                refine AllReadyH.cons (o := { dst := some 138, op := Op.call { callee := Callee.builtin Builtin.append, args := #[Operand.tmp 133, Operand.tmp 137], argTypes := #[83, 83] }, type := 83, pos := "ref.go:137", after := #[{ on := 0, ground := Ground.data }, { on := 4, ground := Ground.data }], guard := none }) rfl (fun K hK => ?_) (AllReadyH.cons (o := { dst := some 144, op := Op.buildSlice 83 1 #[(0, Operand.tmp 143)], type := 83, pos := "ref.go:137", after := #[{ on := 10, ground := Ground.data }], guard := none }) rfl (fun K hK => ?_) AllReadyH.nil)
                · skip
                  have OW : (w1.alloc (.cells #[] 88)).drew.ownsRow w1.heap.size 88 2 (.slice (some ⟨w1.heap.size, 0, none⟩) 0 0) 0 [] := own_same (w := (w1.alloc (.cells #[] 88))) (World.ownsRow_made (base := w1.heap.size) (e := 88) (size := 2) w1 #[] 0 (Nat.le_refl _) (Nat.zero_le _) rfl) (fun _ _ => rfl)
                  have BX5 : Below w1.heap.size w1 (w1.alloc (.cells #[] 88)).drew := (Below.drew (below_alloc (Below.refl w1.heap.size w1) _))
                  obtain ⟨v2, w5, hr2, ho2, hg2, g5, c5, rfl⟩ := append_keys (w1.alloc (.cells #[] 88)).drew w1.heap.size _ 0 [] none 0 0 ([].take 0) 83 OW ((KS0.out _ (Q2.out.after BX5)).take 0) (by simp) (by omega) (by omega) BX5.size ⟨_, _, rfl⟩
                  simp only [Nat.zero_add, List.nil_append] at hr2 ho2
                  have BW5 : Below w1.heap.size w1 w5 := below_own BX5 OW BX5.size hg2
                  clear OW BX5 hg2
                  refine step_append_run rfl (.tmp 133) (.tmp 137) _ _ rfl _ _ rfl rfl _ _ hr2 ?_
                  refine hK.out _ _ (HS.out _ (Q2.out.after BW5)) (fun hHeld => ?_)
                  clear hK K
                  try simp only [Act.put, List.setIfInBounds_toArray, List.set_cons_zero, List.set_cons_succ]
                  refine wpAnyH_ready (rs := [11]) (by kernel_rfl) (by simp) ?_
                  refine AllReadyH.cons (o := { dst := some 144, op := Op.buildSlice 83 1 #[(0, Operand.tmp 143)], type := 83, pos := "ref.go:137", after := #[{ on := 10, ground := Ground.data }], guard := none }) rfl (fun K hK => ?_) AllReadyH.nil
                  · skip
                    go_simp
                    refine hK.out _ _ (HS.out _ (Q2.out.after (below_alloc BW5 _))) (fun hHeld => ?_)
                    clear hK K
                    try simp only [Act.put, List.setIfInBounds_toArray, List.set_cons_zero, List.set_cons_succ]
                    refine wpAnyH_ready (rs := [12]) (by kernel_rfl) (by simp) ?_
                    refine AllReadyH.cons (o := { dst := some 145, op := Op.call { callee := Callee.builtin Builtin.append, args := #[Operand.tmp 138, Operand.tmp 144], argTypes := #[83, 83] }, type := 83, pos := "ref.go:137", after := #[{ on := 5, ground := Ground.data }, { on := 11, ground := Ground.data }, { on := 5, ground := Ground.chain }], guard := none }) rfl (fun K hK => ?_) AllReadyH.nil
                    · skip
                      have KB : Blk w5.heap.size #[.string (strOfNums key), .int .i64 (md : Int)] 88 (w5.alloc (.cells #[.string (strOfNums key), .int .i64 (md : Int)] 88)) := Blk.new w5 _ _ rfl
                      have OW5 := ho2.alloc (.cells #[.string (strOfNums key), .int .i64 (md : Int)] 88)
                      have BX6 : Below w1.heap.size w1 (w5.alloc (.cells #[.string (strOfNums key), .int .i64 (md : Int)] 88)) := below_alloc' BW5 _
                      obtain ⟨v3, w6, hr3, ho3, hg3, g6, c6, rfl⟩ := append_keys (w5.alloc (.cells #[.string (strOfNums key), .int .i64 (md : Int)] 88)) w1.heap.size _ 0 (kC ([].take 0)) (some ⟨w5.heap.size, 0, none⟩) 1 1 [⟨key, md⟩] 83 OW5 (keyS_blk KB) rfl (by omega) (by omega) BX6.size ⟨_, _, rfl⟩
                      have BW6 : Below w1.heap.size w1 w6 := below_own BX6 OW5 BX6.size hg3
                      clear OW5 BX6 hg3 KB
                      refine step_append_run rfl (.tmp 138) (.tmp 144) _ _ rfl _ _ rfl rfl _ _ hr3 ?_
                      refine hK.out _ _ (HS.out _ (Q2.out.after BW6)) (fun hHeld => ?_)
                      clear hK K
                      try simp only [Act.put, List.setIfInBounds_toArray, List.set_cons_zero, List.set_cons_succ]
                      refine wpAnyH_take (i := 13) (oi := { dst := some 17, op := Op.assign (Operand.tmp 145), type := 83, pos := "ref.go:137", after := #[{ on := 12, ground := Ground.data }, { on := 12, ground := Ground.chain }, { on := 0, ground := Ground.phase }, { on := 1, ground := Ground.phase }, { on := 2, ground := Ground.phase }, { on := 3, ground := Ground.phase }, { on := 4, ground := Ground.phase }, { on := 5, ground := Ground.phase }, { on := 6, ground := Ground.phase }, { on := 7, ground := Ground.phase }, { on := 8, ground := Ground.phase }, { on := 9, ground := Ground.phase }, { on := 10, ground := Ground.phase }, { on := 11, ground := Ground.phase }, { on := 12, ground := Ground.phase }], guard := none }) (v := ?_) rfl (by kernel_rfl) (by kernel_rfl) (by kernel_rfl) (fun _ _ _ h => h) (Or.inl ⟨by rfl, ?_⟩) (by assumption) ?_
                      rotate_left 1
                      · intro w hSw; (try dsimp only at hSw); go_simp; try (with_reducible rfl)
                      try simp only [Act.put, List.setIfInBounds_toArray, List.set_cons_zero, List.set_cons_succ]
                      refine wpAnyH_done (by kernel_rfl) ?_ _
                      have V6 := Lib.hid BW6
                      have R6 := Lib.hid ho3
                      clear hHeld HS hr2 ho2 hr3 ho3 BW5 BW6
                      go_upto_region 28 with fail
                      have S1 := (SEE.out _ (Q2.out.after V6.out.drew).maps).2.1
                      refine wp_region_held_drew (S := fun w' => w'.cell? ⟨gt, 1, none⟩ = some (.slice (some ⟨gl, 0, none⟩) L.length cl)) (by kernel_rfl) S1 (fun hHeld => ?_)
                      clear S1
                      refine wpAnyH_take (i := 0) (oi := { dst := some 146, op := Op.move (Operand.tmp 0), type := 35, pos := "ref.go:138", after := #[], guard := none }) (v := ?_) rfl (by kernel_rfl) (by kernel_rfl) (by kernel_rfl) (fun _ _ _ h => h) (Or.inl ⟨by rfl, ?_⟩) (by assumption) ?_
                      rotate_left 1
                      · intro w hSw; (try dsimp only at hSw); go_simp; try (with_reducible rfl)
                      try simp only [Act.put, List.setIfInBounds_toArray, List.set_cons_zero, List.set_cons_succ]
                      refine wpAnyH_take (i := 1) (oi := { dst := some 147, op := Op.nilCheck (Operand.tmp 146), type := 0, pos := "ref.go:138", after := #[{ on := 0, ground := Ground.data }], guard := none }) (v := ?_) rfl (by kernel_rfl) (by kernel_rfl) (by kernel_rfl) (fun _ _ _ h => h) (Or.inl ⟨by rfl, ?_⟩) (by assumption) ?_
                      rotate_left 1
                      · intro w hSw; (try dsimp only at hSw); go_simp; try (with_reducible rfl)
                      try simp only [Act.put, List.setIfInBounds_toArray, List.set_cons_zero, List.set_cons_succ]
                      refine wpAnyH_take (i := 2) (oi := { dst := some 148, op := Op.fieldAddr 82 (Operand.tmp 147) 1, type := 0, pos := "ref.go:138", after := #[{ on := 1, ground := Ground.data }], guard := none }) (v := ?_) rfl (by kernel_rfl) (by kernel_rfl) (by kernel_rfl) (fun _ _ _ h => h) (Or.inl ⟨by rfl, ?_⟩) (by assumption) ?_
                      rotate_left 1
                      · intro w hSw; (try dsimp only at hSw); go_simp; try (with_reducible rfl)
                      try simp only [Act.put, List.setIfInBounds_toArray, List.set_cons_zero, List.set_cons_succ]
                      refine wpAnyH_take (i := 3) (oi := { dst := some 149, op := Op.load 80 (Operand.tmp 148), type := 80, pos := "ref.go:138", after := #[{ on := 2, ground := Ground.data }], guard := none }) (v := ?_) rfl (by kernel_rfl) (by kernel_rfl) (by kernel_rfl) (fun _ _ _ h => h) (Or.inl ⟨by rfl, ?_⟩) (by assumption) ?_
                      rotate_left 1
                      · intro w hSw; (try dsimp only at hSw); go_simp; try (with_reducible rfl)
                      try simp only [Act.put, List.setIfInBounds_toArray, List.set_cons_zero, List.set_cons_succ]
                      refine wpAnyH_take (i := 4) (oi := { dst := some 150, op := Op.move (Operand.tmp 1), type := 3, pos := "ref.go:138", after := #[], guard := none }) (v := ?_) rfl (by kernel_rfl) (by kernel_rfl) (by kernel_rfl) (fun _ _ _ h => h) (Or.inl ⟨by rfl, ?_⟩) (by assumption) ?_
                      rotate_left 1
                      · intro w hSw; (try dsimp only at hSw); go_simp; try (with_reducible rfl)
                      try simp only [Act.put, List.setIfInBounds_toArray, List.set_cons_zero, List.set_cons_succ]
                      refine wpAnyH_take (i := 5) (oi := { dst := some 151, op := Op.move (Operand.tmp 17), type := 83, pos := "ref.go:138", after := #[], guard := none }) (v := ?_) rfl (by kernel_rfl) (by kernel_rfl) (by kernel_rfl) (fun _ _ _ h => h) (Or.inl ⟨by rfl, ?_⟩) (by assumption) ?_
                      rotate_left 1
                      · intro w hSw; (try dsimp only at hSw); go_simp; try (with_reducible rfl)
                      try simp only [Act.put, List.setIfInBounds_toArray, List.set_cons_zero, List.set_cons_succ]
                      refine wpAnyH_take (i := 6) (oi := { dst := some 152, op := Op.move (Operand.tmp 16), type := 83, pos := "ref.go:138", after := #[], guard := none }) (v := ?_) rfl (by kernel_rfl) (by kernel_rfl) (by kernel_rfl) (fun _ _ _ h => h) (Or.inl ⟨by rfl, ?_⟩) (by assumption) ?_
                      rotate_left 1
                      · intro w hSw; (try dsimp only at hSw); go_simp; try (with_reducible rfl)
                      try simp only [Act.put, List.setIfInBounds_toArray, List.set_cons_zero, List.set_cons_succ]
                      refine wpAnyH_ready (rs := [7]) (by kernel_rfl) (by simp) ?_
                      refine AllReadyH.cons (o := { dst := some 153, op := Op.call { callee := Callee.builtin Builtin.append, args := #[Operand.tmp 151, Operand.tmp 152], argTypes := #[83, 83] }, type := 83, pos := "ref.go:138", after := #[{ on := 5, ground := Ground.data }, { on := 6, ground := Ground.data }], guard := none }) rfl (fun K hK => ?_) AllReadyH.nil
                      · skip
                        have BX7 : Below w1.heap.size w1 w6.drew := V6.out.drew
                        have OW7 := own_same (w' := w6.drew) R6.out (fun _ _ => rfl)
                        have KR : KeyS w6.drew (some ⟨g1, 0, none⟩) ([].drop 0) := (own_keyS (rfl) RO.out).after BX7
                        obtain ⟨v4, w7, hr4, ho4, hg4, g7, c7, rfl⟩ := append_keys w6.drew w1.heap.size _ (0 + 1) _ (some ⟨g1, 0, none⟩) 0 c1 ([].drop 0) 83 OW7 KR (rfl) (by omega) (by omega) BX7.size ⟨_, _, rfl⟩
                        rw [show 0 + 1 + 0 = 0 + 1 by omega] at hr4 ho4
                        have BW7 : Below w1.heap.size w1 w7 := below_own BX7 OW7 BX7.size hg4
                        have DN := Lib.hid (DONE.out w7 _ BW7 (by rw [← kC_app, ← kC_app, List.append_assoc] at ho4; rw [TI.out]; exact ho4))
                        have SE := SEE.out w7 (Q2.out.after BW7).maps
                        obtain ⟨-, z1, -, -, -, -, z4, z5, zf4, zf5, -⟩ := SE
                        have T1 : (w7.setCell ⟨gl, k * 6 + 4, none⟩ (.slice (some ⟨g7, 0, none⟩) (0 + 1) c7)).cell? ⟨gt, 1, none⟩ = some (.slice (some ⟨gl, 0, none⟩) L.length cl) := (World.cell?_of_block (Below.heap_setCell _ _ _ _ HGT.out)).trans z1
                        have T5 : (w7.setCell ⟨gl, k * 6 + 4, none⟩ (.slice (some ⟨g7, 0, none⟩) (0 + 1) c7)).cell? ⟨gl, k * 6 + 5, none⟩ = some (.int .i64 (md : Int)) := by rw [← z5]; exact cell_setCell_off w7 gl (k * 6 + 4) (k * 6 + 5) _ (by omega)
                        have T6 : (w7.setCell ⟨gl, k * 6 + 4, none⟩ (.slice (some ⟨g7, 0, none⟩) (0 + 1) c7)).frozen? ⟨gl, k * 6 + 5, none⟩ = false := by rw [World.frozen?_setCell]; exact zf5
                        clear OW7 KR hg4 BX7 ho4 z5 zf5
                        refine step_append_run rfl (.tmp 151) (.tmp 152) _ _ rfl _ _ rfl rfl _ _ hr4 ?_
                        refine hK.out _ _ z1 (fun hHeld => ?_)
                        clear hK K
                        try simp only [Act.put, List.setIfInBounds_toArray, List.set_cons_zero, List.set_cons_succ]
                        refine wpAnyH_take (i := 8) (oi := { dst := some 154, op := Op.indexAddr 80 (Operand.tmp 149) (Operand.tmp 150), type := 0, pos := "ref.go:138", after := #[{ on := 3, ground := Ground.data }, { on := 4, ground := Ground.data }, { on := 0, ground := Ground.phase }, { on := 1, ground := Ground.phase }, { on := 2, ground := Ground.phase }, { on := 3, ground := Ground.phase }, { on := 4, ground := Ground.phase }, { on := 5, ground := Ground.phase }, { on := 6, ground := Ground.phase }, { on := 7, ground := Ground.phase }], guard := none }) (v := ?_) rfl (by kernel_rfl) (by kernel_rfl) (by kernel_rfl) (fun _ _ _ h => h) (Or.inl ⟨by rfl, ?_⟩) (by assumption) ?_
                        rotate_left 1
                        · intro w hSw; (try dsimp only at hSw); go_simp; try (with_reducible rfl)
                        try simp only [Act.put, List.setIfInBounds_toArray, List.set_cons_zero, List.set_cons_succ]
                        refine wpAnyH_take (i := 9) (oi := { dst := some 155, op := Op.fieldAddr 85 (Operand.tmp 154) 1, type := 0, pos := "ref.go:138", after := #[{ on := 8, ground := Ground.data }, { on := 0, ground := Ground.phase }, { on := 1, ground := Ground.phase }, { on := 2, ground := Ground.phase }, { on := 3, ground := Ground.phase }, { on := 4, ground := Ground.phase }, { on := 5, ground := Ground.phase }, { on := 6, ground := Ground.phase }, { on := 7, ground := Ground.phase }], guard := none }) (v := ?_) rfl (by kernel_rfl) (by kernel_rfl) (by kernel_rfl) (fun _ _ _ h => h) (Or.inl ⟨by rfl, ?_⟩) (by assumption) ?_
                        rotate_left 1
                        · intro w hSw; (try dsimp only at hSw); go_simp; try (with_reducible rfl)
                        try simp only [Act.put, List.setIfInBounds_toArray, List.set_cons_zero, List.set_cons_succ]
                        refine wpAnyH_ready (rs := [10]) (by kernel_rfl) (by simp) ?_
                        refine AllReadyH.cons (o := { dst := none, op := Op.store 83 (Operand.tmp 155) (Operand.tmp 153), type := 0, pos := "ref.go:138", after := #[{ on := 9, ground := Ground.data }, { on := 7, ground := Ground.data }, { on := 7, ground := Ground.chain }, { on := 0, ground := Ground.phase }, { on := 1, ground := Ground.phase }, { on := 2, ground := Ground.phase }, { on := 3, ground := Ground.phase }, { on := 4, ground := Ground.phase }, { on := 5, ground := Ground.phase }, { on := 6, ground := Ground.phase }, { on := 7, ground := Ground.phase }], guard := none }) rfl (fun K hK => ?_) AllReadyH.nil
                        · skip
                          go_simp
                          refine hK.out _ _ T1 (fun hHeld => ?_)
                          clear hK K
                          try simp only [Act.put, List.setIfInBounds_toArray, List.set_cons_zero, List.set_cons_succ]
                          refine wpAnyH_done (by kernel_rfl) ?_ _
                          clear hHeld z1 z4 zf4 hr4
                          go_wp2_with fail
                          go_ret2
                          exact DN.out
                · skip
                  go_simp
                  refine hK.out _ _ (HS.out _ (Q2.out.after (Below.drew (below_alloc (below_alloc (Below.refl w1.heap.size w1) _) _)))) (fun hHeld => ?_)
                  clear hK K
                  try simp only [Act.put, List.setIfInBounds_toArray, List.set_cons_zero, List.set_cons_succ]
                  refine wpAnyH_ready (rs := [5]) (by kernel_rfl) (by simp) ?_
                  refine AllReadyH.cons (o := { dst := some 138, op := Op.call { callee := Callee.builtin Builtin.append, args := #[Operand.tmp 133, Operand.tmp 137], argTypes := #[83, 83] }, type := 83, pos := "ref.go:137", after := #[{ on := 0, ground := Ground.data }, { on := 4, ground := Ground.data }], guard := none }) rfl (fun K hK => ?_) AllReadyH.nil
                  · skip
                    have OW : ((w1.alloc (.cells #[] 88)).alloc (.cells #[.string (strOfNums key), .int .i64 (md : Int)] 88)).drew.ownsRow w1.heap.size 88 2 (.slice (some ⟨w1.heap.size, 0, none⟩) 0 0) 0 [] := own_same (w := ((w1.alloc (.cells #[] 88)).alloc (.cells #[.string (strOfNums key), .int .i64 (md : Int)] 88))) ((World.ownsRow_made (base := w1.heap.size) (e := 88) (size := 2) w1 #[] 0 (Nat.le_refl _) (Nat.zero_le _) rfl).alloc (.cells #[.string (strOfNums key), .int .i64 (md : Int)] 88)) (fun _ _ => rfl)
                    have BX5 : Below w1.heap.size w1 ((w1.alloc (.cells #[] 88)).alloc (.cells #[.string (strOfNums key), .int .i64 (md : Int)] 88)).drew := (Below.drew (below_alloc (below_alloc (Below.refl w1.heap.size w1) _) _))
                    obtain ⟨v2, w5, hr2, ho2, hg2, g5, c5, rfl⟩ := append_keys ((w1.alloc (.cells #[] 88)).alloc (.cells #[.string (strOfNums key), .int .i64 (md : Int)] 88)).drew w1.heap.size _ 0 [] none 0 0 ([].take 0) 83 OW ((KS0.out _ (Q2.out.after BX5)).take 0) (by simp) (by omega) (by omega) BX5.size ⟨_, _, rfl⟩
                    simp only [Nat.zero_add, List.nil_append] at hr2 ho2
                    have BW5 : Below w1.heap.size w1 w5 := below_own BX5 OW BX5.size hg2
                    have KB0 : Blk (w1.heap.size + 1) #[.string (strOfNums key), .int .i64 (md : Int)] 88 ((w1.alloc (.cells #[] 88)).alloc (.cells #[.string (strOfNums key), .int .i64 (md : Int)] 88)).drew := (show Blk (w1.heap.size + 1) #[.string (strOfNums key), .int .i64 (md : Int)] 88 ((w1.alloc (.cells #[] 88)).alloc (.cells #[.string (strOfNums key), .int .i64 (md : Int)] 88)) from Blk.new (w1.alloc (.cells #[] 88)) _ _ (by simp))
                    have KB : Blk (w1.heap.size + 1) #[.string (strOfNums key), .int .i64 (md : Int)] 88 w5 := Blk.same KB0 (hg2.block _ KB0.lt (by simp [Value.ownBlock]))
                    clear OW BX5 hg2
                    refine step_append_run rfl (.tmp 133) (.tmp 137) _ _ rfl _ _ rfl rfl _ _ hr2 ?_
                    refine hK.out _ _ (HS.out _ (Q2.out.after BW5)) (fun hHeld => ?_)
                    clear hK K
                    try simp only [Act.put, List.setIfInBounds_toArray, List.set_cons_zero, List.set_cons_succ]
                    refine wpAnyH_ready (rs := [12]) (by kernel_rfl) (by simp) ?_
                    refine AllReadyH.cons (o := { dst := some 145, op := Op.call { callee := Callee.builtin Builtin.append, args := #[Operand.tmp 138, Operand.tmp 144], argTypes := #[83, 83] }, type := 83, pos := "ref.go:137", after := #[{ on := 5, ground := Ground.data }, { on := 11, ground := Ground.data }, { on := 5, ground := Ground.chain }], guard := none }) rfl (fun K hK => ?_) AllReadyH.nil
                    · skip
                      have OW5 := ho2
                      have BX6 := BW5
                      obtain ⟨v3, w6, hr3, ho3, hg3, g6, c6, rfl⟩ := append_keys w5 w1.heap.size _ 0 (kC ([].take 0)) (some ⟨w1.heap.size + 1, 0, none⟩) 1 1 [⟨key, md⟩] 83 OW5 (keyS_blk KB) rfl (by omega) (by omega) BX6.size ⟨_, _, rfl⟩
                      have BW6 : Below w1.heap.size w1 w6 := below_own BX6 OW5 BX6.size hg3
                      clear OW5 BX6 hg3 KB
                      refine step_append_run rfl (.tmp 138) (.tmp 144) _ _ rfl _ _ rfl rfl _ _ hr3 ?_
                      refine hK.out _ _ (HS.out _ (Q2.out.after BW6)) (fun hHeld => ?_)
                      clear hK K
                      try simp only [Act.put, List.setIfInBounds_toArray, List.set_cons_zero, List.set_cons_succ]
                      refine wpAnyH_take (i := 13) (oi := { dst := some 17, op := Op.assign (Operand.tmp 145), type := 83, pos := "ref.go:137", after := #[{ on := 12, ground := Ground.data }, { on := 12, ground := Ground.chain }, { on := 0, ground := Ground.phase }, { on := 1, ground := Ground.phase }, { on := 2, ground := Ground.phase }, { on := 3, ground := Ground.phase }, { on := 4, ground := Ground.phase }, { on := 5, ground := Ground.phase }, { on := 6, ground := Ground.phase }, { on := 7, ground := Ground.phase }, { on := 8, ground := Ground.phase }, { on := 9, ground := Ground.phase }, { on := 10, ground := Ground.phase }, { on := 11, ground := Ground.phase }, { on := 12, ground := Ground.phase }], guard := none }) (v := ?_) rfl (by kernel_rfl) (by kernel_rfl) (by kernel_rfl) (fun _ _ _ h => h) (Or.inl ⟨by rfl, ?_⟩) (by assumption) ?_
                      rotate_left 1
                      · intro w hSw; (try dsimp only at hSw); go_simp; try (with_reducible rfl)
                      try simp only [Act.put, List.setIfInBounds_toArray, List.set_cons_zero, List.set_cons_succ]
                      refine wpAnyH_done (by kernel_rfl) ?_ _
                      have V6 := Lib.hid BW6
                      have R6 := Lib.hid ho3
                      clear hHeld HS hr2 ho2 hr3 ho3 BW5 BW6
                      go_upto_region 28 with fail
                      have S1 := (SEE.out _ (Q2.out.after V6.out.drew).maps).2.1
                      refine wp_region_held_drew (S := fun w' => w'.cell? ⟨gt, 1, none⟩ = some (.slice (some ⟨gl, 0, none⟩) L.length cl)) (by kernel_rfl) S1 (fun hHeld => ?_)
                      clear S1
                      refine wpAnyH_take (i := 0) (oi := { dst := some 146, op := Op.move (Operand.tmp 0), type := 35, pos := "ref.go:138", after := #[], guard := none }) (v := ?_) rfl (by kernel_rfl) (by kernel_rfl) (by kernel_rfl) (fun _ _ _ h => h) (Or.inl ⟨by rfl, ?_⟩) (by assumption) ?_
                      rotate_left 1
                      · intro w hSw; (try dsimp only at hSw); go_simp; try (with_reducible rfl)
                      try simp only [Act.put, List.setIfInBounds_toArray, List.set_cons_zero, List.set_cons_succ]
                      refine wpAnyH_take (i := 1) (oi := { dst := some 147, op := Op.nilCheck (Operand.tmp 146), type := 0, pos := "ref.go:138", after := #[{ on := 0, ground := Ground.data }], guard := none }) (v := ?_) rfl (by kernel_rfl) (by kernel_rfl) (by kernel_rfl) (fun _ _ _ h => h) (Or.inl ⟨by rfl, ?_⟩) (by assumption) ?_
                      rotate_left 1
                      · intro w hSw; (try dsimp only at hSw); go_simp; try (with_reducible rfl)
                      try simp only [Act.put, List.setIfInBounds_toArray, List.set_cons_zero, List.set_cons_succ]
                      refine wpAnyH_take (i := 2) (oi := { dst := some 148, op := Op.fieldAddr 82 (Operand.tmp 147) 1, type := 0, pos := "ref.go:138", after := #[{ on := 1, ground := Ground.data }], guard := none }) (v := ?_) rfl (by kernel_rfl) (by kernel_rfl) (by kernel_rfl) (fun _ _ _ h => h) (Or.inl ⟨by rfl, ?_⟩) (by assumption) ?_
                      rotate_left 1
                      · intro w hSw; (try dsimp only at hSw); go_simp; try (with_reducible rfl)
                      try simp only [Act.put, List.setIfInBounds_toArray, List.set_cons_zero, List.set_cons_succ]
                      refine wpAnyH_take (i := 3) (oi := { dst := some 149, op := Op.load 80 (Operand.tmp 148), type := 80, pos := "ref.go:138", after := #[{ on := 2, ground := Ground.data }], guard := none }) (v := ?_) rfl (by kernel_rfl) (by kernel_rfl) (by kernel_rfl) (fun _ _ _ h => h) (Or.inl ⟨by rfl, ?_⟩) (by assumption) ?_
                      rotate_left 1
                      · intro w hSw; (try dsimp only at hSw); go_simp; try (with_reducible rfl)
                      try simp only [Act.put, List.setIfInBounds_toArray, List.set_cons_zero, List.set_cons_succ]
                      refine wpAnyH_take (i := 4) (oi := { dst := some 150, op := Op.move (Operand.tmp 1), type := 3, pos := "ref.go:138", after := #[], guard := none }) (v := ?_) rfl (by kernel_rfl) (by kernel_rfl) (by kernel_rfl) (fun _ _ _ h => h) (Or.inl ⟨by rfl, ?_⟩) (by assumption) ?_
                      rotate_left 1
                      · intro w hSw; (try dsimp only at hSw); go_simp; try (with_reducible rfl)
                      try simp only [Act.put, List.setIfInBounds_toArray, List.set_cons_zero, List.set_cons_succ]
                      refine wpAnyH_take (i := 5) (oi := { dst := some 151, op := Op.move (Operand.tmp 17), type := 83, pos := "ref.go:138", after := #[], guard := none }) (v := ?_) rfl (by kernel_rfl) (by kernel_rfl) (by kernel_rfl) (fun _ _ _ h => h) (Or.inl ⟨by rfl, ?_⟩) (by assumption) ?_
                      rotate_left 1
                      · intro w hSw; (try dsimp only at hSw); go_simp; try (with_reducible rfl)
                      try simp only [Act.put, List.setIfInBounds_toArray, List.set_cons_zero, List.set_cons_succ]
                      refine wpAnyH_take (i := 6) (oi := { dst := some 152, op := Op.move (Operand.tmp 16), type := 83, pos := "ref.go:138", after := #[], guard := none }) (v := ?_) rfl (by kernel_rfl) (by kernel_rfl) (by kernel_rfl) (fun _ _ _ h => h) (Or.inl ⟨by rfl, ?_⟩) (by assumption) ?_
                      rotate_left 1
                      · intro w hSw; (try dsimp only at hSw); go_simp; try (with_reducible rfl)
                      try simp only [Act.put, List.setIfInBounds_toArray, List.set_cons_zero, List.set_cons_succ]
                      refine wpAnyH_ready (rs := [7]) (by kernel_rfl) (by simp) ?_
                      refine AllReadyH.cons (o := { dst := some 153, op := Op.call { callee := Callee.builtin Builtin.append, args := #[Operand.tmp 151, Operand.tmp 152], argTypes := #[83, 83] }, type := 83, pos := "ref.go:138", after := #[{ on := 5, ground := Ground.data }, { on := 6, ground := Ground.data }], guard := none }) rfl (fun K hK => ?_) AllReadyH.nil
                      · skip
                        have BX7 : Below w1.heap.size w1 w6.drew := V6.out.drew
                        have OW7 := own_same (w' := w6.drew) R6.out (fun _ _ => rfl)
                        have KR : KeyS w6.drew (some ⟨g1, 0, none⟩) ([].drop 0) := (own_keyS (rfl) RO.out).after BX7
                        obtain ⟨v4, w7, hr4, ho4, hg4, g7, c7, rfl⟩ := append_keys w6.drew w1.heap.size _ (0 + 1) _ (some ⟨g1, 0, none⟩) 0 c1 ([].drop 0) 83 OW7 KR (rfl) (by omega) (by omega) BX7.size ⟨_, _, rfl⟩
                        rw [show 0 + 1 + 0 = 0 + 1 by omega] at hr4 ho4
                        have BW7 : Below w1.heap.size w1 w7 := below_own BX7 OW7 BX7.size hg4
                        have DN := Lib.hid (DONE.out w7 _ BW7 (by rw [← kC_app, ← kC_app, List.append_assoc] at ho4; rw [TI.out]; exact ho4))
                        have SE := SEE.out w7 (Q2.out.after BW7).maps
                        obtain ⟨-, z1, -, -, -, -, z4, z5, zf4, zf5, -⟩ := SE
                        have T1 : (w7.setCell ⟨gl, k * 6 + 4, none⟩ (.slice (some ⟨g7, 0, none⟩) (0 + 1) c7)).cell? ⟨gt, 1, none⟩ = some (.slice (some ⟨gl, 0, none⟩) L.length cl) := (World.cell?_of_block (Below.heap_setCell _ _ _ _ HGT.out)).trans z1
                        have T5 : (w7.setCell ⟨gl, k * 6 + 4, none⟩ (.slice (some ⟨g7, 0, none⟩) (0 + 1) c7)).cell? ⟨gl, k * 6 + 5, none⟩ = some (.int .i64 (md : Int)) := by rw [← z5]; exact cell_setCell_off w7 gl (k * 6 + 4) (k * 6 + 5) _ (by omega)
                        have T6 : (w7.setCell ⟨gl, k * 6 + 4, none⟩ (.slice (some ⟨g7, 0, none⟩) (0 + 1) c7)).frozen? ⟨gl, k * 6 + 5, none⟩ = false := by rw [World.frozen?_setCell]; exact zf5
                        clear OW7 KR hg4 BX7 ho4 z5 zf5
                        refine step_append_run rfl (.tmp 151) (.tmp 152) _ _ rfl _ _ rfl rfl _ _ hr4 ?_
                        refine hK.out _ _ z1 (fun hHeld => ?_)
                        clear hK K
                        try simp only [Act.put, List.setIfInBounds_toArray, List.set_cons_zero, List.set_cons_succ]
                        refine wpAnyH_take (i := 8) (oi := { dst := some 154, op := Op.indexAddr 80 (Operand.tmp 149) (Operand.tmp 150), type := 0, pos := "ref.go:138", after := #[{ on := 3, ground := Ground.data }, { on := 4, ground := Ground.data }, { on := 0, ground := Ground.phase }, { on := 1, ground := Ground.phase }, { on := 2, ground := Ground.phase }, { on := 3, ground := Ground.phase }, { on := 4, ground := Ground.phase }, { on := 5, ground := Ground.phase }, { on := 6, ground := Ground.phase }, { on := 7, ground := Ground.phase }], guard := none }) (v := ?_) rfl (by kernel_rfl) (by kernel_rfl) (by kernel_rfl) (fun _ _ _ h => h) (Or.inl ⟨by rfl, ?_⟩) (by assumption) ?_
                        rotate_left 1
                        · intro w hSw; (try dsimp only at hSw); go_simp; try (with_reducible rfl)
                        try simp only [Act.put, List.setIfInBounds_toArray, List.set_cons_zero, List.set_cons_succ]
                        refine wpAnyH_take (i := 9) (oi := { dst := some 155, op := Op.fieldAddr 85 (Operand.tmp 154) 1, type := 0, pos := "ref.go:138", after := #[{ on := 8, ground := Ground.data }, { on := 0, ground := Ground.phase }, { on := 1, ground := Ground.phase }, { on := 2, ground := Ground.phase }, { on := 3, ground := Ground.phase }, { on := 4, ground := Ground.phase }, { on := 5, ground := Ground.phase }, { on := 6, ground := Ground.phase }, { on := 7, ground := Ground.phase }], guard := none }) (v := ?_) rfl (by kernel_rfl) (by kernel_rfl) (by kernel_rfl) (fun _ _ _ h => h) (Or.inl ⟨by rfl, ?_⟩) (by assumption) ?_
                        rotate_left 1
                        · intro w hSw; (try dsimp only at hSw); go_simp; try (with_reducible rfl)
                        try simp only [Act.put, List.setIfInBounds_toArray, List.set_cons_zero, List.set_cons_succ]
                        refine wpAnyH_ready (rs := [10]) (by kernel_rfl) (by simp) ?_
                        refine AllReadyH.cons (o := { dst := none, op := Op.store 83 (Operand.tmp 155) (Operand.tmp 153), type := 0, pos := "ref.go:138", after := #[{ on := 9, ground := Ground.data }, { on := 7, ground := Ground.data }, { on := 7, ground := Ground.chain }, { on := 0, ground := Ground.phase }, { on := 1, ground := Ground.phase }, { on := 2, ground := Ground.phase }, { on := 3, ground := Ground.phase }, { on := 4, ground := Ground.phase }, { on := 5, ground := Ground.phase }, { on := 6, ground := Ground.phase }, { on := 7, ground := Ground.phase }], guard := none }) rfl (fun K hK => ?_) AllReadyH.nil
                        · skip
                          go_simp
                          refine hK.out _ _ T1 (fun hHeld => ?_)
                          clear hK K
                          try simp only [Act.put, List.setIfInBounds_toArray, List.set_cons_zero, List.set_cons_succ]
                          refine wpAnyH_done (by kernel_rfl) ?_ _
                          clear hHeld z1 z4 zf4 hr4
                          go_wp2_with fail
                          go_ret2
                          exact DN.out
              · skip
                go_simp
                refine hK.out _ _ (HS.out _ (Q2.out.after (Below.drew (below_alloc (Below.refl w1.heap.size w1) _)))) (fun hHeld => ?_)
                clear hK K
                try simp only [Act.put, List.setIfInBounds_toArray, List.set_cons_zero, List.set_cons_succ]
                refine wpAnyH_ready (rs := [0]) (by kernel_rfl) (by simp) ?_
                refine AllReadyH.cons (o := { dst := some 133, op := Op.buildSlice 83 0 #[], type := 83, pos := "ref.go:137", after := #[], guard := none }) rfl (fun K hK => ?_) AllReadyH.nil
                · skip
                  go_simp
                  refine hK.out _ _ (HS.out _ (Q2.out.after (Below.drew (below_alloc (below_alloc (Below.refl w1.heap.size w1) _) _)))) (fun hHeld => ?_)
                  clear hK K
                  try simp only [Act.put, List.setIfInBounds_toArray, List.set_cons_zero, List.set_cons_succ]
                  refine wpAnyH_ready (rs := [5]) (by kernel_rfl) (by simp) ?_
                  refine AllReadyH.cons (o := { dst := some 138, op := Op.call { callee := Callee.builtin Builtin.append, args := #[Operand.tmp 133, Operand.tmp 137], argTypes := #[83, 83] }, type := 83, pos := "ref.go:137", after := #[{ on := 0, ground := Ground.data }, { on := 4, ground := Ground.data }], guard := none }) rfl (fun K hK => ?_) AllReadyH.nil
                  · skip
                    have OW : ((w1.alloc (.cells #[.string (strOfNums key), .int .i64 (md : Int)] 88)).alloc (.cells #[] 88)).drew.ownsRow w1.heap.size 88 2 (.slice (some ⟨w1.heap.size + 1, 0, none⟩) 0 0) 0 [] := own_same (w := ((w1.alloc (.cells #[.string (strOfNums key), .int .i64 (md : Int)] 88)).alloc (.cells #[] 88))) (by have q := World.ownsRow_made (base := w1.heap.size) (e := 88) (size := 2) (w1.alloc (.cells #[.string (strOfNums key), .int .i64 (md : Int)] 88)) #[] 0 (by simp) (Nat.zero_le _) rfl; rw [show (w1.alloc (.cells #[.string (strOfNums key), .int .i64 (md : Int)] 88)).heap.size = w1.heap.size + 1 by simp] at q; exact q) (fun _ _ => rfl)
                    have BX5 : Below w1.heap.size w1 ((w1.alloc (.cells #[.string (strOfNums key), .int .i64 (md : Int)] 88)).alloc (.cells #[] 88)).drew := (Below.drew (below_alloc (below_alloc (Below.refl w1.heap.size w1) _) _))
                    obtain ⟨v2, w5, hr2, ho2, hg2, g5, c5, rfl⟩ := append_keys ((w1.alloc (.cells #[.string (strOfNums key), .int .i64 (md : Int)] 88)).alloc (.cells #[] 88)).drew w1.heap.size _ 0 [] none 0 0 ([].take 0) 83 OW ((KS0.out _ (Q2.out.after BX5)).take 0) (by simp) (by omega) (by omega) BX5.size ⟨_, _, rfl⟩
                    simp only [Nat.zero_add, List.nil_append] at hr2 ho2
                    have BW5 : Below w1.heap.size w1 w5 := below_own BX5 OW BX5.size hg2
                    have KB0 : Blk (w1.heap.size) #[.string (strOfNums key), .int .i64 (md : Int)] 88 ((w1.alloc (.cells #[.string (strOfNums key), .int .i64 (md : Int)] 88)).alloc (.cells #[] 88)).drew := (show Blk (w1.heap.size) #[.string (strOfNums key), .int .i64 (md : Int)] 88 ((w1.alloc (.cells #[.string (strOfNums key), .int .i64 (md : Int)] 88)).alloc (.cells #[] 88)) from Blk.after (Blk.new w1 _ _ rfl) (below_alloc (Below.refl _ _) _))
                    have KB : Blk (w1.heap.size) #[.string (strOfNums key), .int .i64 (md : Int)] 88 w5 := Blk.same KB0 (hg2.block _ KB0.lt (by simp [Value.ownBlock]))
                    clear OW BX5 hg2
                    refine step_append_run rfl (.tmp 133) (.tmp 137) _ _ rfl _ _ rfl rfl _ _ hr2 ?_
                    refine hK.out _ _ (HS.out _ (Q2.out.after BW5)) (fun hHeld => ?_)
                    clear hK K
                    try simp only [Act.put, List.setIfInBounds_toArray, List.set_cons_zero, List.set_cons_succ]
                    refine wpAnyH_ready (rs := [12]) (by kernel_rfl) (by simp) ?_
                    refine AllReadyH.cons (o := { dst := some 145, op := Op.call { callee := Callee.builtin Builtin.append, args := #[Operand.tmp 138, Operand.tmp 144], argTypes := #[83, 83] }, type := 83, pos := "ref.go:137", after := #[{ on := 5, ground := Ground.data }, { on := 11, ground := Ground.data }, { on := 5, ground := Ground.chain }], guard := none }) rfl (fun K hK => ?_) AllReadyH.nil
                    · skip
                      have OW5 := ho2
                      have BX6 := BW5
                      obtain ⟨v3, w6, hr3, ho3, hg3, g6, c6, rfl⟩ := append_keys w5 w1.heap.size _ 0 (kC ([].take 0)) (some ⟨w1.heap.size, 0, none⟩) 1 1 [⟨key, md⟩] 83 OW5 (keyS_blk KB) rfl (by omega) (by omega) BX6.size ⟨_, _, rfl⟩
                      have BW6 : Below w1.heap.size w1 w6 := below_own BX6 OW5 BX6.size hg3
                      clear OW5 BX6 hg3 KB
                      refine step_append_run rfl (.tmp 138) (.tmp 144) _ _ rfl _ _ rfl rfl _ _ hr3 ?_
                      refine hK.out _ _ (HS.out _ (Q2.out.after BW6)) (fun hHeld => ?_)
                      clear hK K
                      try simp only [Act.put, List.setIfInBounds_toArray, List.set_cons_zero, List.set_cons_succ]
                      refine wpAnyH_take (i := 13) (oi := { dst := some 17, op := Op.assign (Operand.tmp 145), type := 83, pos := "ref.go:137", after := #[{ on := 12, ground := Ground.data }, { on := 12, ground := Ground.chain }, { on := 0, ground := Ground.phase }, { on := 1, ground := Ground.phase }, { on := 2, ground := Ground.phase }, { on := 3, ground := Ground.phase }, { on := 4, ground := Ground.phase }, { on := 5, ground := Ground.phase }, { on := 6, ground := Ground.phase }, { on := 7, ground := Ground.phase }, { on := 8, ground := Ground.phase }, { on := 9, ground := Ground.phase }, { on := 10, ground := Ground.phase }, { on := 11, ground := Ground.phase }, { on := 12, ground := Ground.phase }], guard := none }) (v := ?_) rfl (by kernel_rfl) (by kernel_rfl) (by kernel_rfl) (fun _ _ _ h => h) (Or.inl ⟨by rfl, ?_⟩) (by assumption) ?_
                      rotate_left 1
                      · intro w hSw; (try dsimp only at hSw); go_simp; try (with_reducible rfl)
                      try simp only [Act.put, List.setIfInBounds_toArray, List.set_cons_zero, List.set_cons_succ]
                      refine wpAnyH_done (by kernel_rfl) ?_ _
                      have V6 := Lib.hid BW6
                      have R6 := Lib.hid ho3
                      clear hHeld HS hr2 ho2 hr3 ho3 BW5 BW6
                      go_upto_region 28 with fail
                      have S1 := (SEE.out _ (Q2.out.after V6.out.drew).maps).2.1
                      refine wp_region_held_drew (S := fun w' => w'.cell? ⟨gt, 1, none⟩ = some (.slice (some ⟨gl, 0, none⟩) L.length cl)) (by kernel_rfl) S1 (fun hHeld => ?_)
                      clear S1
                      refine wpAnyH_take (i := 0) (oi := { dst := some 146, op := Op.move (Operand.tmp 0), type := 35, pos := "ref.go:138", after := #[], guard := none }) (v := ?_) rfl (by kernel_rfl) (by kernel_rfl) (by kernel_rfl) (fun _ _ _ h => h) (Or.inl ⟨by rfl, ?_⟩) (by assumption) ?_
                      rotate_left 1
                      · intro w hSw; (try dsimp only at hSw); go_simp; try (with_reducible rfl)
                      try simp only [Act.put, List.setIfInBounds_toArray, List.set_cons_zero, List.set_cons_succ]
                      refine wpAnyH_take (i := 1) (oi := { dst := some 147, op := Op.nilCheck (Operand.tmp 146), type := 0, pos := "ref.go:138", after := #[{ on := 0, ground := Ground.data }], guard := none }) (v := ?_) rfl (by kernel_rfl) (by kernel_rfl) (by kernel_rfl) (fun _ _ _ h => h) (Or.inl ⟨by rfl, ?_⟩) (by assumption) ?_
                      rotate_left 1
                      · intro w hSw; (try dsimp only at hSw); go_simp; try (with_reducible rfl)
                      try simp only [Act.put, List.setIfInBounds_toArray, List.set_cons_zero, List.set_cons_succ]
                      refine wpAnyH_take (i := 2) (oi := { dst := some 148, op := Op.fieldAddr 82 (Operand.tmp 147) 1, type := 0, pos := "ref.go:138", after := #[{ on := 1, ground := Ground.data }], guard := none }) (v := ?_) rfl (by kernel_rfl) (by kernel_rfl) (by kernel_rfl) (fun _ _ _ h => h) (Or.inl ⟨by rfl, ?_⟩) (by assumption) ?_
                      rotate_left 1
                      · intro w hSw; (try dsimp only at hSw); go_simp; try (with_reducible rfl)
                      try simp only [Act.put, List.setIfInBounds_toArray, List.set_cons_zero, List.set_cons_succ]
                      refine wpAnyH_take (i := 3) (oi := { dst := some 149, op := Op.load 80 (Operand.tmp 148), type := 80, pos := "ref.go:138", after := #[{ on := 2, ground := Ground.data }], guard := none }) (v := ?_) rfl (by kernel_rfl) (by kernel_rfl) (by kernel_rfl) (fun _ _ _ h => h) (Or.inl ⟨by rfl, ?_⟩) (by assumption) ?_
                      rotate_left 1
                      · intro w hSw; (try dsimp only at hSw); go_simp; try (with_reducible rfl)
                      try simp only [Act.put, List.setIfInBounds_toArray, List.set_cons_zero, List.set_cons_succ]
                      refine wpAnyH_take (i := 4) (oi := { dst := some 150, op := Op.move (Operand.tmp 1), type := 3, pos := "ref.go:138", after := #[], guard := none }) (v := ?_) rfl (by kernel_rfl) (by kernel_rfl) (by kernel_rfl) (fun _ _ _ h => h) (Or.inl ⟨by rfl, ?_⟩) (by assumption) ?_
                      rotate_left 1
                      · intro w hSw; (try dsimp only at hSw); go_simp; try (with_reducible rfl)
                      try simp only [Act.put, List.setIfInBounds_toArray, List.set_cons_zero, List.set_cons_succ]
                      refine wpAnyH_take (i := 5) (oi := { dst := some 151, op := Op.move (Operand.tmp 17), type := 83, pos := "ref.go:138", after := #[], guard := none }) (v := ?_) rfl (by kernel_rfl) (by kernel_rfl) (by kernel_rfl) (fun _ _ _ h => h) (Or.inl ⟨by rfl, ?_⟩) (by assumption) ?_
                      rotate_left 1
                      · intro w hSw; (try dsimp only at hSw); go_simp; try (with_reducible rfl)
                      try simp only [Act.put, List.setIfInBounds_toArray, List.set_cons_zero, List.set_cons_succ]
                      refine wpAnyH_take (i := 6) (oi := { dst := some 152, op := Op.move (Operand.tmp 16), type := 83, pos := "ref.go:138", after := #[], guard := none }) (v := ?_) rfl (by kernel_rfl) (by kernel_rfl) (by kernel_rfl) (fun _ _ _ h => h) (Or.inl ⟨by rfl, ?_⟩) (by assumption) ?_
                      rotate_left 1
                      · intro w hSw; (try dsimp only at hSw); go_simp; try (with_reducible rfl)
                      try simp only [Act.put, List.setIfInBounds_toArray, List.set_cons_zero, List.set_cons_succ]
                      refine wpAnyH_ready (rs := [7]) (by kernel_rfl) (by simp) ?_
                      refine AllReadyH.cons (o := { dst := some 153, op := Op.call { callee := Callee.builtin Builtin.append, args := #[Operand.tmp 151, Operand.tmp 152], argTypes := #[83, 83] }, type := 83, pos := "ref.go:138", after := #[{ on := 5, ground := Ground.data }, { on := 6, ground := Ground.data }], guard := none }) rfl (fun K hK => ?_) AllReadyH.nil
                      · skip
                        have BX7 : Below w1.heap.size w1 w6.drew := V6.out.drew
                        have OW7 := own_same (w' := w6.drew) R6.out (fun _ _ => rfl)
                        have KR : KeyS w6.drew (some ⟨g1, 0, none⟩) ([].drop 0) := (own_keyS (rfl) RO.out).after BX7
                        obtain ⟨v4, w7, hr4, ho4, hg4, g7, c7, rfl⟩ := append_keys w6.drew w1.heap.size _ (0 + 1) _ (some ⟨g1, 0, none⟩) 0 c1 ([].drop 0) 83 OW7 KR (rfl) (by omega) (by omega) BX7.size ⟨_, _, rfl⟩
                        rw [show 0 + 1 + 0 = 0 + 1 by omega] at hr4 ho4
                        have BW7 : Below w1.heap.size w1 w7 := below_own BX7 OW7 BX7.size hg4
                        have DN := Lib.hid (DONE.out w7 _ BW7 (by rw [← kC_app, ← kC_app, List.append_assoc] at ho4; rw [TI.out]; exact ho4))
                        have SE := SEE.out w7 (Q2.out.after BW7).maps
                        obtain ⟨-, z1, -, -, -, -, z4, z5, zf4, zf5, -⟩ := SE
                        have T1 : (w7.setCell ⟨gl, k * 6 + 4, none⟩ (.slice (some ⟨g7, 0, none⟩) (0 + 1) c7)).cell? ⟨gt, 1, none⟩ = some (.slice (some ⟨gl, 0, none⟩) L.length cl) := (World.cell?_of_block (Below.heap_setCell _ _ _ _ HGT.out)).trans z1
                        have T5 : (w7.setCell ⟨gl, k * 6 + 4, none⟩ (.slice (some ⟨g7, 0, none⟩) (0 + 1) c7)).cell? ⟨gl, k * 6 + 5, none⟩ = some (.int .i64 (md : Int)) := by rw [← z5]; exact cell_setCell_off w7 gl (k * 6 + 4) (k * 6 + 5) _ (by omega)
                        have T6 : (w7.setCell ⟨gl, k * 6 + 4, none⟩ (.slice (some ⟨g7, 0, none⟩) (0 + 1) c7)).frozen? ⟨gl, k * 6 + 5, none⟩ = false := by rw [World.frozen?_setCell]; exact zf5
                        clear OW7 KR hg4 BX7 ho4 z5 zf5
                        refine step_append_run rfl (.tmp 151) (.tmp 152) _ _ rfl _ _ rfl rfl _ _ hr4 ?_
                        refine hK.out _ _ z1 (fun hHeld => ?_)
                        clear hK K
                        try simp only [Act.put, List.setIfInBounds_toArray, List.set_cons_zero, List.set_cons_succ]
                        refine wpAnyH_take (i := 8) (oi := { dst := some 154, op := Op.indexAddr 80 (Operand.tmp 149) (Operand.tmp 150), type := 0, pos := "ref.go:138", after := #[{ on := 3, ground := Ground.data }, { on := 4, ground := Ground.data }, { on := 0, ground := Ground.phase }, { on := 1, ground := Ground.phase }, { on := 2, ground := Ground.phase }, { on := 3, ground := Ground.phase }, { on := 4, ground := Ground.phase }, { on := 5, ground := Ground.phase }, { on := 6, ground := Ground.phase }, { on := 7, ground := Ground.phase }], guard := none }) (v := ?_) rfl (by kernel_rfl) (by kernel_rfl) (by kernel_rfl) (fun _ _ _ h => h) (Or.inl ⟨by rfl, ?_⟩) (by assumption) ?_
                        rotate_left 1
                        · intro w hSw; (try dsimp only at hSw); go_simp; try (with_reducible rfl)
                        try simp only [Act.put, List.setIfInBounds_toArray, List.set_cons_zero, List.set_cons_succ]
                        refine wpAnyH_take (i := 9) (oi := { dst := some 155, op := Op.fieldAddr 85 (Operand.tmp 154) 1, type := 0, pos := "ref.go:138", after := #[{ on := 8, ground := Ground.data }, { on := 0, ground := Ground.phase }, { on := 1, ground := Ground.phase }, { on := 2, ground := Ground.phase }, { on := 3, ground := Ground.phase }, { on := 4, ground := Ground.phase }, { on := 5, ground := Ground.phase }, { on := 6, ground := Ground.phase }, { on := 7, ground := Ground.phase }], guard := none }) (v := ?_) rfl (by kernel_rfl) (by kernel_rfl) (by kernel_rfl) (fun _ _ _ h => h) (Or.inl ⟨by rfl, ?_⟩) (by assumption) ?_
                        rotate_left 1
                        · intro w hSw; (try dsimp only at hSw); go_simp; try (with_reducible rfl)
                        try simp only [Act.put, List.setIfInBounds_toArray, List.set_cons_zero, List.set_cons_succ]
                        refine wpAnyH_ready (rs := [10]) (by kernel_rfl) (by simp) ?_
                        refine AllReadyH.cons (o := { dst := none, op := Op.store 83 (Operand.tmp 155) (Operand.tmp 153), type := 0, pos := "ref.go:138", after := #[{ on := 9, ground := Ground.data }, { on := 7, ground := Ground.data }, { on := 7, ground := Ground.chain }, { on := 0, ground := Ground.phase }, { on := 1, ground := Ground.phase }, { on := 2, ground := Ground.phase }, { on := 3, ground := Ground.phase }, { on := 4, ground := Ground.phase }, { on := 5, ground := Ground.phase }, { on := 6, ground := Ground.phase }, { on := 7, ground := Ground.phase }], guard := none }) rfl (fun K hK => ?_) AllReadyH.nil
                        · skip
                          go_simp
                          refine hK.out _ _ T1 (fun hHeld => ?_)
                          clear hK K
                          try simp only [Act.put, List.setIfInBounds_toArray, List.set_cons_zero, List.set_cons_succ]
                          refine wpAnyH_done (by kernel_rfl) ?_ _
                          clear hHeld z1 z4 zf4 hr4
                          go_wp2_with fail
                          go_ret2
                          exact DN.out
          go_wp2_with fail
          go_loopw [15] (fun iv wr => ∃ j : Nat, iv = .int .i64 j ∧ j ≤ lk ∧ Hid (∀ t, t < j → kLt (kAt KY t).k key = true) ∧ Hid (PutS w gt g2 vl L F G M4 wr G4 gx #[.bool true, .int .i64 (trAt L k).m.d.key, .int .i64 (trAt L k).m.d.val, .int .i64 (trAt L k).m.d.max, .slice (some ⟨gk, 0, none⟩) lk ck, .int .i64 (md : Int)])) (fun iv wr => lk - (intOf iv).toNat)
          case atStart => exact ⟨0, rfl, by omega, Lib.hid fun t ht => by omega, Q⟩
          case round =>
            clear Q
            obtain ⟨j, rfl, hj, HT, Q⟩ := hrel
            have j0 : (0 : Int) ≤ j := by omega
            have x4 := Q.out.var.cell 4
            have KS := (SEE.out wr Q.out.maps).2.2.2.2.2.2.2.2.2.2
            have X4 : ∀ q, (wr.drewN q).cell? ⟨gx, 4, none⟩ = _ := fun q => x4
            by_cases hlt : (j : Int) < lk
            · have hjn : j < lk := by omega
              obtain ⟨gk', o', e', hgk, hcell⟩ := KS (by rw [HLK.out]; omega)
              cases e'
              obtain ⟨s0, s1⟩ := hcell j (by rw [HLK.out]; exact hjn)
              rw [Nat.zero_add] at s0 s1
              have hlt2 := less_kLt (HKEYS.out j hjn) HO.out
              have hst' := fun q => ST.out (wr.drewN q) (Q.out.turn.next (below_drewN (Below.refl _ _) q))
              have QD : Hid (∀ q, PutS w gt g2 vl L F G M4 (wr.drewN q) G4 gx #[.bool true, .int .i64 (trAt L k).m.d.key, .int .i64 (trAt L k).m.d.val, .int .i64 (trAt L k).m.d.max, .slice (some ⟨gk, 0, none⟩) lk ck, .int .i64 (md : Int)]) := Lib.hid fun q => Q.out.after (below_drewN (Below.refl _ _) q)
              clear hcell KS s1
              cases hab : kLt (kAt KY j).k key
              · rw [hab] at hlt2
                have TI : Hid (tIns KY ⟨key, md⟩ = KY.take j ++ ⟨key, md⟩ :: KY.drop j) := Lib.hid (tIns_at (by rw [HLK.out]; omega) HT.out (fun _ => hab))
                have hcj : ¬ ck = j := by omega
                have hcj2 : (j : Int) ≤ ck := by omega
                generalize (strOfNums (kAt KY j).k) = kj at *
                go_wp2_with fail
                go_quiet (fail)
                have QN := Lib.hid (QD.out nq)
                clear QD hst' X4 Q x4 s0
                generalize wr.drewN nq = wq at *
                have Q := QN
                clear QN
                have KS0 : Hid (∀ u, PutS w gt g2 vl L F G M4 u G4 gx #[.bool true, .int .i64 (trAt L k).m.d.key, .int .i64 (trAt L k).m.d.val, .int .i64 (trAt L k).m.d.max, .slice (some ⟨gk, 0, none⟩) lk ck, .int .i64 (md : Int)] → KeyS u (some ⟨gk, 0, none⟩) KY) := Lib.hid fun u q => (SEE.out u q.maps).2.2.2.2.2.2.2.2.2.2
                have Q1 : Hid (PutS w gt g2 vl L F G M4 (wq.alloc (.cells #[] 88)) G4 gx #[.bool true, .int .i64 (trAt L k).m.d.key, .int .i64 (trAt L k).m.d.val, .int .i64 (trAt L k).m.d.max, .slice (some ⟨gk, 0, none⟩) lk ck, .int .i64 (md : Int)]) := Lib.hid (Q.out.after (below_alloc (Below.refl _ _) _))
                have OW := World.ownsRow_made (base := wq.heap.size) (e := 88) (size := 2) wq #[] 0 (Nat.le_refl _) (Nat.zero_le _) rfl
                have KD : KeyS (wq.alloc (.cells #[] 88)) (some ⟨gk, j * 2, none⟩) (KY.drop j) := by have q := (KS0.out _ Q1.out).drop j; rw [Nat.zero_add] at q; exact q
                obtain ⟨v1, w1, hr1, ho1, hg1, g1, c1, rfl⟩ := append_keys (wq.alloc (.cells #[] 88)) wq.heap.size _ 0 [] (some ⟨gk, j * 2, none⟩) (lk - j) (ck - j) (KY.drop j) 83 OW KD (by rw [List.length_drop, HLK.out]) (by omega) (by omega) (by simp) ⟨_, _, rfl⟩
                simp only [Nat.zero_add, List.nil_append] at hr1 ho1
                have BW1 : Below wq.heap.size wq w1 := below_own (below_alloc (Below.refl _ _) _) OW (by simp) hg1
                have Q2 : Hid (PutS w gt g2 vl L F G M4 w1 G4 gx #[.bool true, .int .i64 (trAt L k).m.d.key, .int .i64 (trAt L k).m.d.val, .int .i64 (trAt L k).m.d.max, .slice (some ⟨gk, 0, none⟩) lk ck, .int .i64 (md : Int)]) := Lib.hid (Q.out.after BW1)
                have RO := Lib.hid ho1
                have GWQ : Hid (w.heap.size ≤ wq.heap.size ∧ wq.heap.size ≤ w1.heap.size) := Lib.hid ⟨Q.out.turn.size, BW1.size⟩
                have y4 := Q1.out.var.cell 4
                clear OW KD ho1 hg1 BW1 Q Q1
                go_wp2_with ((at_builtin; refine Lib.wpList_append_run _ rfl (.tmp 127) (.tmp 131) _ _ rfl _ _ rfl rfl _ _ hr1 ?_))
                clear hr1 y4
                go_upto_region 27 with fail
                have DONE : Hid (∀ u v, Below w1.heap.size w1 u → u.ownsRow w1.heap.size 88 2 v (lk + 1) (kC (tIns KY ⟨key, md⟩)) → PutW gt g2 F G R w (.returned (.tuple #[.int .u64 0, .int .i64 0])) ((u.setCell ⟨gl, k * 6 + 4, none⟩ v).setCell ⟨gl, k * 6 + 5, none⟩ (.int .i64 ((md : Int) + 1)))) := Lib.hid fun u v hb1 ho1 => by
                  rw [HE.out]
                  exact put_done Q2.out hk HVL.out (by rw [tIns_len, HLK.out]; exact ho1) HIO.out hb1
                have HS : Hid (∀ u, PutS w gt g2 vl L F G M4 u G4 gx #[.bool true, .int .i64 (trAt L k).m.d.key, .int .i64 (trAt L k).m.d.val, .int .i64 (trAt L k).m.d.max, .slice (some ⟨gk, 0, none⟩) lk ck, .int .i64 (md : Int)] → u.cell? ⟨gx, 4, none⟩ = some (.slice (some ⟨gk, 0, none⟩) lk ck) ∧ u.cell? ⟨gx, 5, none⟩ = some (.int .i64 (md : Int)) ∧ (convert 40 9 (.slice B n d)).run Try.prog u = .ok (.string (strOfNums key)) u) := Lib.hid fun u q => ⟨q.var.cell 4, q.var.cell 5, ST.out u q.turn⟩
                refine wp_region_held_drew (S := fun w' => w'.cell? ⟨gx, 4, none⟩ = some (.slice (some ⟨gk, 0, none⟩) lk ck) ∧ w'.cell? ⟨gx, 5, none⟩ = some (.int .i64 (md : Int)) ∧ (convert 40 9 (.slice B n d)).run Try.prog w' = .ok (.string (strOfNums key)) w') (by kernel_rfl) (HS.out _ (Q2.out.after (Below.drew (Below.refl _ _)))) (fun hHeld => ?_)
                refine wpAnyH_take (i := 1) (oi := { dst := some 134, op := Op.fieldAddr 85 (Operand.tmp 13) 1, type := 0, pos := "ref.go:137", after := #[], guard := none }) (v := ?_) rfl (by kernel_rfl) (by kernel_rfl) (by kernel_rfl) (fun _ _ _ h => h) (Or.inl ⟨by rfl, ?_⟩) (by assumption) ?_
                rotate_left 1
                · intro w hSw; (try dsimp only at hSw); go_simp; try (with_reducible rfl)
                try simp only [Act.put, List.setIfInBounds_toArray, List.set_cons_zero, List.set_cons_succ]
                refine wpAnyH_take (i := 2) (oi := { dst := some 135, op := Op.load 83 (Operand.tmp 134), type := 83, pos := "ref.go:137", after := #[{ on := 1, ground := Ground.data }], guard := none }) (v := ?_) rfl (by kernel_rfl) (by kernel_rfl) (by kernel_rfl) (fun _ _ _ h => h) (Or.inl ⟨by rfl, ?_⟩) (by assumption) ?_
                rotate_left 1
                · intro w hSw; (try dsimp only at hSw); go_simp; try (with_reducible rfl)
                try simp only [Act.put, List.setIfInBounds_toArray, List.set_cons_zero, List.set_cons_succ]
                refine wpAnyH_take (i := 3) (oi := { dst := some 136, op := Op.move (Operand.tmp 15), type := 3, pos := "ref.go:137", after := #[], guard := none }) (v := ?_) rfl (by kernel_rfl) (by kernel_rfl) (by kernel_rfl) (fun _ _ _ h => h) (Or.inl ⟨by rfl, ?_⟩) (by assumption) ?_
                rotate_left 1
                · intro w hSw; (try dsimp only at hSw); go_simp; try (with_reducible rfl)
                try simp only [Act.put, List.setIfInBounds_toArray, List.set_cons_zero, List.set_cons_succ]
                refine wpAnyH_take (i := 4) (oi := { dst := some 137, op := Op.slice 83 (Operand.tmp 135) none (some (Operand.tmp 136)) none, type := 83, pos := "ref.go:137", after := #[{ on := 2, ground := Ground.data }, { on := 3, ground := Ground.data }], guard := none }) (v := ?_) rfl (by kernel_rfl) (by kernel_rfl) (by kernel_rfl) (fun _ _ _ h => h) (Or.inl ⟨by rfl, ?_⟩) (by assumption) ?_
                rotate_left 1
                · intro w hSw; (try dsimp only at hSw); go_simp; try (with_reducible rfl)
                try simp only [Act.put, List.setIfInBounds_toArray, List.set_cons_zero, List.set_cons_succ]
                refine wpAnyH_take (i := 6) (oi := { dst := some 139, op := Op.move (Operand.tmp 2), type := 40, pos := "ref.go:137", after := #[], guard := none }) (v := ?_) rfl (by kernel_rfl) (by kernel_rfl) (by kernel_rfl) (fun _ _ _ h => h) (Or.inl ⟨by rfl, ?_⟩) (by assumption) ?_
                rotate_left 1
                · intro w hSw; (try dsimp only at hSw); go_simp; try (with_reducible rfl)
                try simp only [Act.put, List.setIfInBounds_toArray, List.set_cons_zero, List.set_cons_succ]
                refine wpAnyH_take (i := 7) (oi := { dst := some 140, op := Op.convert 40 9 (Operand.tmp 139), type := 9, pos := "ref.go:137", after := #[{ on := 6, ground := Ground.data }], guard := none }) (v := ?_) rfl (by kernel_rfl) (by kernel_rfl) (by kernel_rfl) (fun _ _ _ h => h) (Or.inl ⟨by rfl, ?_⟩) (by assumption) ?_
                rotate_left 1
                · intro w hSw; (try dsimp only at hSw); go_simp; try (with_reducible rfl)
                try simp only [Act.put, List.setIfInBounds_toArray, List.set_cons_zero, List.set_cons_succ]
                refine wpAnyH_take (i := 8) (oi := { dst := some 141, op := Op.fieldAddr 85 (Operand.tmp 13) 2, type := 0, pos := "ref.go:137", after := #[], guard := none }) (v := ?_) rfl (by kernel_rfl) (by kernel_rfl) (by kernel_rfl) (fun _ _ _ h => h) (Or.inl ⟨by rfl, ?_⟩) (by assumption) ?_
                rotate_left 1
                · intro w hSw; (try dsimp only at hSw); go_simp; try (with_reducible rfl)
                try simp only [Act.put, List.setIfInBounds_toArray, List.set_cons_zero, List.set_cons_succ]
                refine wpAnyH_take (i := 9) (oi := { dst := some 142, op := Op.load 3 (Operand.tmp 141), type := 3, pos := "ref.go:137", after := #[{ on := 8, ground := Ground.data }], guard := none }) (v := ?_) rfl (by kernel_rfl) (by kernel_rfl) (by kernel_rfl) (fun _ _ _ h => h) (Or.inl ⟨by rfl, ?_⟩) (by assumption) ?_
                rotate_left 1
                · intro w hSw; (try dsimp only at hSw); go_simp; try (with_reducible rfl)
                try simp only [Act.put, List.setIfInBounds_toArray, List.set_cons_zero, List.set_cons_succ]
                refine wpAnyH_take (i := 10) (oi := { dst := some 143, op := Op.build 88 #[(0, Operand.tmp 140), (1, Operand.tmp 142)], type := 88, pos := "ref.go:137", after := #[{ on := 7, ground := Ground.data }, { on := 9, ground := Ground.data }], guard := none }) (v := ?_) rfl (by kernel_rfl) (by kernel_rfl) (by kernel_rfl) (fun _ _ _ h => h) (Or.inl ⟨by rfl, ?_⟩) (by assumption) ?_
                rotate_left 1
                · intro w hSw; (try dsimp only at hSw); go_simp; try (with_reducible rfl)
                try simp only [Act.put, List.setIfInBounds_toArray, List.set_cons_zero, List.set_cons_succ]
                refine wpAnyH_ready (rs := [0, 11]) (by kernel_rfl) (by simp) ?_
                refine AllReadyH.cons (o := { dst := some 133, op := Op.buildSlice 83 0 #[], type := 83, pos := "ref.go:137", after := #[], guard := none }) rfl (fun K hK => ?_) (AllReadyH.cons (o := { dst := some 144, op := Op.buildSlice 83 1 #[(0, Operand.tmp 143)], type := 83, pos := "ref.go:137", after := #[{ on := 10, ground := Ground.data }], guard := none }) rfl (fun K hK => ?_) AllReadyH.nil)
                · skip
                  go_simp
                  refine hK.out _ _ (HS.out _ (Q2.out.after (Below.drew (below_alloc (Below.refl w1.heap.size w1) _)))) (fun hHeld => ?_)
                  clear hK K
                  try simp only [Act.put, List.setIfInBounds_toArray, List.set_cons_zero, List.set_cons_succ]
                  refine wpAnyH_ready (rs := [5, 11]) (by kernel_rfl) (by simp) ?_
                  refine AllReadyH.cons (o := { dst := some 138, op := Op.call { callee := Callee.builtin Builtin.append, args := #[Operand.tmp 133, Operand.tmp 137], argTypes := #[83, 83] }, type := 83, pos := "ref.go:137", after := #[{ on := 0, ground := Ground.data }, { on := 4, ground := Ground.data }], guard := none }) rfl (fun K hK => ?_) (AllReadyH.cons (o := { dst := some 144, op := Op.buildSlice 83 1 #[(0, Operand.tmp 143)], type := 83, pos := "ref.go:137", after := #[{ on := 10, ground := Ground.data }], guard := none }) rfl (fun K hK => ?_) AllReadyH.nil)
                  · skip
                    have OW : (w1.alloc (.cells #[] 88)).drew.ownsRow w1.heap.size 88 2 (.slice (some ⟨w1.heap.size, 0, none⟩) 0 0) 0 [] := own_same (w := (w1.alloc (.cells #[] 88))) (World.ownsRow_made (base := w1.heap.size) (e := 88) (size := 2) w1 #[] 0 (Nat.le_refl _) (Nat.zero_le _) rfl) (fun _ _ => rfl)
                    have BX5 : Below w1.heap.size w1 (w1.alloc (.cells #[] 88)).drew := (Below.drew (below_alloc (Below.refl w1.heap.size w1) _))
                    obtain ⟨v2, w5, hr2, ho2, hg2, g5, c5, rfl⟩ := append_keys (w1.alloc (.cells #[] 88)).drew w1.heap.size _ 0 [] (some ⟨gk, 0, none⟩) j ck (KY.take j) 83 OW ((KS0.out _ (Q2.out.after BX5)).take j) (by rw [List.length_take, HLK.out]; omega) (by omega) (by omega) BX5.size ⟨_, _, rfl⟩
                    simp only [Nat.zero_add, List.nil_append] at hr2 ho2
                    have BW5 : Below w1.heap.size w1 w5 := below_own BX5 OW BX5.size hg2
                    clear OW BX5 hg2
                    refine step_append_run rfl (.tmp 133) (.tmp 137) _ _ rfl _ _ rfl rfl _ _ hr2 ?_
                    refine hK.out _ _ (HS.out _ (Q2.out.after BW5)) (fun hHeld => ?_)
                    clear hK K
                    try simp only [Act.put, List.setIfInBounds_toArray, List.set_cons_zero, List.set_cons_succ]
                    refine wpAnyH_ready (rs := [11]) (by kernel_rfl) (by simp) ?_
                    refine AllReadyH.cons (o := { dst := some 144, op := Op.buildSlice 83 1 #[(0, Operand.tmp 143)], type := 83, pos := "ref.go:137", after := #[{ on := 10, ground := Ground.data }], guard := none }) rfl (fun K hK => ?_) AllReadyH.nil
                    · skip
                      go_simp
                      refine hK.out _ _ (HS.out _ (Q2.out.after (below_alloc BW5 _))) (fun hHeld => ?_)
                      clear hK K
                      try simp only [Act.put, List.setIfInBounds_toArray, List.set_cons_zero, List.set_cons_succ]
                      refine wpAnyH_ready (rs := [12]) (by kernel_rfl) (by simp) ?_
                      refine AllReadyH.cons (o := { dst := some 145, op := Op.call { callee := Callee.builtin Builtin.append, args := #[Operand.tmp 138, Operand.tmp 144], argTypes := #[83, 83] }, type := 83, pos := "ref.go:137", after := #[{ on := 5, ground := Ground.data }, { on := 11, ground := Ground.data }, { on := 5, ground := Ground.chain }], guard := none }) rfl (fun K hK => ?_) AllReadyH.nil
                      · skip
                        have KB : Blk w5.heap.size #[.string (strOfNums key), .int .i64 (md : Int)] 88 (w5.alloc (.cells #[.string (strOfNums key), .int .i64 (md : Int)] 88)) := Blk.new w5 _ _ rfl
                        have OW5 := ho2.alloc (.cells #[.string (strOfNums key), .int .i64 (md : Int)] 88)
                        have BX6 : Below w1.heap.size w1 (w5.alloc (.cells #[.string (strOfNums key), .int .i64 (md : Int)] 88)) := below_alloc' BW5 _
                        obtain ⟨v3, w6, hr3, ho3, hg3, g6, c6, rfl⟩ := append_keys (w5.alloc (.cells #[.string (strOfNums key), .int .i64 (md : Int)] 88)) w1.heap.size _ j (kC (KY.take j)) (some ⟨w5.heap.size, 0, none⟩) 1 1 [⟨key, md⟩] 83 OW5 (keyS_blk KB) rfl (by omega) (by omega) BX6.size ⟨_, _, rfl⟩
                        have BW6 : Below w1.heap.size w1 w6 := below_own BX6 OW5 BX6.size hg3
                        clear OW5 BX6 hg3 KB
                        refine step_append_run rfl (.tmp 138) (.tmp 144) _ _ rfl _ _ rfl rfl _ _ hr3 ?_
                        refine hK.out _ _ (HS.out _ (Q2.out.after BW6)) (fun hHeld => ?_)
                        clear hK K
                        try simp only [Act.put, List.setIfInBounds_toArray, List.set_cons_zero, List.set_cons_succ]
                        refine wpAnyH_take (i := 13) (oi := { dst := some 17, op := Op.assign (Operand.tmp 145), type := 83, pos := "ref.go:137", after := #[{ on := 12, ground := Ground.data }, { on := 12, ground := Ground.chain }, { on := 0, ground := Ground.phase }, { on := 1, ground := Ground.phase }, { on := 2, ground := Ground.phase }, { on := 3, ground := Ground.phase }, { on := 4, ground := Ground.phase }, { on := 5, ground := Ground.phase }, { on := 6, ground := Ground.phase }, { on := 7, ground := Ground.phase }, { on := 8, ground := Ground.phase }, { on := 9, ground := Ground.phase }, { on := 10, ground := Ground.phase }, { on := 11, ground := Ground.phase }, { on := 12, ground := Ground.phase }], guard := none }) (v := ?_) rfl (by kernel_rfl) (by kernel_rfl) (by kernel_rfl) (fun _ _ _ h => h) (Or.inl ⟨by rfl, ?_⟩) (by assumption) ?_
                        rotate_left 1
                        · intro w hSw; (try dsimp only at hSw); go_simp; try (with_reducible rfl)
                        try simp only [Act.put, List.setIfInBounds_toArray, List.set_cons_zero, List.set_cons_succ]
                        refine wpAnyH_done (by kernel_rfl) ?_ _
                        have V6 := Lib.hid BW6
                        have R6 := Lib.hid ho3
                        clear hHeld HS hr2 ho2 hr3 ho3 BW5 BW6
                        go_upto_region 28 with fail
                        have S1 := (SEE.out _ (Q2.out.after V6.out.drew).maps).2.1
                        refine wp_region_held_drew (S := fun w' => w'.cell? ⟨gt, 1, none⟩ = some (.slice (some ⟨gl, 0, none⟩) L.length cl)) (by kernel_rfl) S1 (fun hHeld => ?_)
                        clear S1
                        refine wpAnyH_take (i := 0) (oi := { dst := some 146, op := Op.move (Operand.tmp 0), type := 35, pos := "ref.go:138", after := #[], guard := none }) (v := ?_) rfl (by kernel_rfl) (by kernel_rfl) (by kernel_rfl) (fun _ _ _ h => h) (Or.inl ⟨by rfl, ?_⟩) (by assumption) ?_
                        rotate_left 1
                        · intro w hSw; (try dsimp only at hSw); go_simp; try (with_reducible rfl)
                        try simp only [Act.put, List.setIfInBounds_toArray, List.set_cons_zero, List.set_cons_succ]
                        refine wpAnyH_take (i := 1) (oi := { dst := some 147, op := Op.nilCheck (Operand.tmp 146), type := 0, pos := "ref.go:138", after := #[{ on := 0, ground := Ground.data }], guard := none }) (v := ?_) rfl (by kernel_rfl) (by kernel_rfl) (by kernel_rfl) (fun _ _ _ h => h) (Or.inl ⟨by rfl, ?_⟩) (by assumption) ?_
                        rotate_left 1
                        · intro w hSw; (try dsimp only at hSw); go_simp; try (with_reducible rfl)
                        try simp only [Act.put, List.setIfInBounds_toArray, List.set_cons_zero, List.set_cons_succ]
                        refine wpAnyH_take (i := 2) (oi := { dst := some 148, op := Op.fieldAddr 82 (Operand.tmp 147) 1, type := 0, pos := "ref.go:138", after := #[{ on := 1, ground := Ground.data }], guard := none }) (v := ?_) rfl (by kernel_rfl) (by kernel_rfl) (by kernel_rfl) (fun _ _ _ h => h) (Or.inl ⟨by rfl, ?_⟩) (by assumption) ?_
                        rotate_left 1
                        · intro w hSw; (try dsimp only at hSw); go_simp; try (with_reducible rfl)
                        try simp only [Act.put, List.setIfInBounds_toArray, List.set_cons_zero, List.set_cons_succ]
                        refine wpAnyH_take (i := 3) (oi := { dst := some 149, op := Op.load 80 (Operand.tmp 148), type := 80, pos := "ref.go:138", after := #[{ on := 2, ground := Ground.data }], guard := none }) (v := ?_) rfl (by kernel_rfl) (by kernel_rfl) (by kernel_rfl) (fun _ _ _ h => h) (Or.inl ⟨by rfl, ?_⟩) (by assumption) ?_
                        rotate_left 1
                        · intro w hSw; (try dsimp only at hSw); go_simp; try (with_reducible rfl)
                        try simp only [Act.put, List.setIfInBounds_toArray, List.set_cons_zero, List.set_cons_succ]
                        refine wpAnyH_take (i := 4) (oi := { dst := some 150, op := Op.move (Operand.tmp 1), type := 3, pos := "ref.go:138", after := #[], guard := none }) (v := ?_) rfl (by kernel_rfl) (by kernel_rfl) (by kernel_rfl) (fun _ _ _ h => h) (Or.inl ⟨by rfl, ?_⟩) (by assumption) ?_
                        rotate_left 1
                        · intro w hSw; (try dsimp only at hSw); go_simp; try (with_reducible rfl)
                        try simp only [Act.put, List.setIfInBounds_toArray, List.set_cons_zero, List.set_cons_succ]
                        refine wpAnyH_take (i := 5) (oi := { dst := some 151, op := Op.move (Operand.tmp 17), type := 83, pos := "ref.go:138", after := #[], guard := none }) (v := ?_) rfl (by kernel_rfl) (by kernel_rfl) (by kernel_rfl) (fun _ _ _ h => h) (Or.inl ⟨by rfl, ?_⟩) (by assumption) ?_
                        rotate_left 1
                        · intro w hSw; (try dsimp only at hSw); go_simp; try (with_reducible rfl)
                        try simp only [Act.put, List.setIfInBounds_toArray, List.set_cons_zero, List.set_cons_succ]
                        refine wpAnyH_take (i := 6) (oi := { dst := some 152, op := Op.move (Operand.tmp 16), type := 83, pos := "ref.go:138", after := #[], guard := none }) (v := ?_) rfl (by kernel_rfl) (by kernel_rfl) (by kernel_rfl) (fun _ _ _ h => h) (Or.inl ⟨by rfl, ?_⟩) (by assumption) ?_
                        rotate_left 1
                        · intro w hSw; (try dsimp only at hSw); go_simp; try (with_reducible rfl)
                        try simp only [Act.put, List.setIfInBounds_toArray, List.set_cons_zero, List.set_cons_succ]
                        refine wpAnyH_ready (rs := [7]) (by kernel_rfl) (by simp) ?_
                        refine AllReadyH.cons (o := { dst := some 153, op := Op.call { callee := Callee.builtin Builtin.append, args := #[Operand.tmp 151, Operand.tmp 152], argTypes := #[83, 83] }, type := 83, pos := "ref.go:138", after := #[{ on := 5, ground := Ground.data }, { on := 6, ground := Ground.data }], guard := none }) rfl (fun K hK => ?_) AllReadyH.nil
                        · skip
                          have BX7 : Below w1.heap.size w1 w6.drew := V6.out.drew
                          have OW7 := own_same (w' := w6.drew) R6.out (fun _ _ => rfl)
                          have KR : KeyS w6.drew (some ⟨g1, 0, none⟩) (KY.drop j) := (own_keyS (by rw [List.length_drop, HLK.out]) RO.out).after BX7
                          obtain ⟨v4, w7, hr4, ho4, hg4, g7, c7, rfl⟩ := append_keys w6.drew w1.heap.size _ (j + 1) _ (some ⟨g1, 0, none⟩) (lk - j) c1 (KY.drop j) 83 OW7 KR (by rw [List.length_drop, HLK.out]) (by omega) (by omega) BX7.size ⟨_, _, rfl⟩
                          rw [show j + 1 + (lk - j) = lk + 1 by omega] at hr4 ho4
                          have BW7 : Below w1.heap.size w1 w7 := below_own BX7 OW7 BX7.size hg4
                          have DN := Lib.hid (DONE.out w7 _ BW7 (by rw [← kC_app, ← kC_app, List.append_assoc] at ho4; rw [TI.out]; exact ho4))
                          have SE := SEE.out w7 (Q2.out.after BW7).maps
                          obtain ⟨-, z1, -, -, -, -, z4, z5, zf4, zf5, -⟩ := SE
                          have T1 : (w7.setCell ⟨gl, k * 6 + 4, none⟩ (.slice (some ⟨g7, 0, none⟩) (lk + 1) c7)).cell? ⟨gt, 1, none⟩ = some (.slice (some ⟨gl, 0, none⟩) L.length cl) := (World.cell?_of_block (Below.heap_setCell _ _ _ _ HGT.out)).trans z1
                          have T5 : (w7.setCell ⟨gl, k * 6 + 4, none⟩ (.slice (some ⟨g7, 0, none⟩) (lk + 1) c7)).cell? ⟨gl, k * 6 + 5, none⟩ = some (.int .i64 (md : Int)) := by rw [← z5]; exact cell_setCell_off w7 gl (k * 6 + 4) (k * 6 + 5) _ (by omega)
                          have T6 : (w7.setCell ⟨gl, k * 6 + 4, none⟩ (.slice (some ⟨g7, 0, none⟩) (lk + 1) c7)).frozen? ⟨gl, k * 6 + 5, none⟩ = false := by rw [World.frozen?_setCell]; exact zf5
                          clear OW7 KR hg4 BX7 ho4 z5 zf5
                          refine step_append_run rfl (.tmp 151) (.tmp 152) _ _ rfl _ _ rfl rfl _ _ hr4 ?_
                          refine hK.out _ _ z1 (fun hHeld => ?_)
                          clear hK K
                          try simp only [Act.put, List.setIfInBounds_toArray, List.set_cons_zero, List.set_cons_succ]
                          refine wpAnyH_take (i := 8) (oi := { dst := some 154, op := Op.indexAddr 80 (Operand.tmp 149) (Operand.tmp 150), type := 0, pos := "ref.go:138", after := #[{ on := 3, ground := Ground.data }, { on := 4, ground := Ground.data }, { on := 0, ground := Ground.phase }, { on := 1, ground := Ground.phase }, { on := 2, ground := Ground.phase }, { on := 3, ground := Ground.phase }, { on := 4, ground := Ground.phase }, { on := 5, ground := Ground.phase }, { on := 6, ground := Ground.phase }, { on := 7, ground := Ground.phase }], guard := none }) (v := ?_) rfl (by kernel_rfl) (by kernel_rfl) (by kernel_rfl) (fun _ _ _ h => h) (Or.inl ⟨by rfl, ?_⟩) (by assumption) ?_
                          rotate_left 1
                          · intro w hSw; (try dsimp only at hSw); go_simp; try (with_reducible rfl)
                          try simp only [Act.put, List.setIfInBounds_toArray, List.set_cons_zero, List.set_cons_succ]
                          refine wpAnyH_take (i := 9) (oi := { dst := some 155, op := Op.fieldAddr 85 (Operand.tmp 154) 1, type := 0, pos := "ref.go:138", after := #[{ on := 8, ground := Ground.data }, { on := 0, ground := Ground.phase }, { on := 1, ground := Ground.phase }, { on := 2, ground := Ground.phase }, { on := 3, ground := Ground.phase }, { on := 4, ground := Ground.phase }, { on := 5, ground := Ground.phase }, { on := 6, ground := Ground.phase }, { on := 7, ground := Ground.phase }], guard := none }) (v := ?_) rfl (by kernel_rfl) (by kernel_rfl) (by kernel_rfl) (fun _ _ _ h => h) (Or.inl ⟨by rfl, ?_⟩) (by assumption) ?_
                          rotate_left 1
                          · intro w hSw; (try dsimp only at hSw); go_simp; try (with_reducible rfl)
                          try simp only [Act.put, List.setIfInBounds_toArray, List.set_cons_zero, List.set_cons_succ]
                          refine wpAnyH_ready (rs := [10]) (by kernel_rfl) (by simp) ?_
                          refine AllReadyH.cons (o := { dst := none, op := Op.store 83 (Operand.tmp 155) (Operand.tmp 153), type := 0, pos := "ref.go:138", after := #[{ on := 9, ground := Ground.data }, { on := 7, ground := Ground.data }, { on := 7, ground := Ground.chain }, { on := 0, ground := Ground.phase }, { on := 1, ground := Ground.phase }, { on := 2, ground := Ground.phase }, { on := 3, ground := Ground.phase }, { on := 4, ground := Ground.phase }, { on := 5, ground := Ground.phase }, { on := 6, ground := Ground.phase }, { on := 7, ground := Ground.phase }], guard := none }) rfl (fun K hK => ?_) AllReadyH.nil
                          · skip
                            go_simp
                            refine hK.out _ _ T1 (fun hHeld => ?_)
                            clear hK K
                            try simp only [Act.put, List.setIfInBounds_toArray, List.set_cons_zero, List.set_cons_succ]
                            refine wpAnyH_done (by kernel_rfl) ?_ _
                            clear hHeld z1 z4 zf4 hr4
                            go_wp2_with fail
                            go_ret2
                            exact DN.out
                  · skip
                    go_simp
                    refine hK.out _ _ (HS.out _ (Q2.out.after (Below.drew (below_alloc (below_alloc (Below.refl w1.heap.size w1) _) _)))) (fun hHeld => ?_)
                    clear hK K
                    try simp only [Act.put, List.setIfInBounds_toArray, List.set_cons_zero, List.set_cons_succ]
                    refine wpAnyH_ready (rs := [5]) (by kernel_rfl) (by simp) ?_
                    refine AllReadyH.cons (o := { dst := some 138, op := Op.call { callee := Callee.builtin Builtin.append, args := #[Operand.tmp 133, Operand.tmp 137], argTypes := #[83, 83] }, type := 83, pos := "ref.go:137", after := #[{ on := 0, ground := Ground.data }, { on := 4, ground := Ground.data }], guard := none }) rfl (fun K hK => ?_) AllReadyH.nil
                    · skip
                      have OW : ((w1.alloc (.cells #[] 88)).alloc (.cells #[.string (strOfNums key), .int .i64 (md : Int)] 88)).drew.ownsRow w1.heap.size 88 2 (.slice (some ⟨w1.heap.size, 0, none⟩) 0 0) 0 [] := own_same (w := ((w1.alloc (.cells #[] 88)).alloc (.cells #[.string (strOfNums key), .int .i64 (md : Int)] 88))) ((World.ownsRow_made (base := w1.heap.size) (e := 88) (size := 2) w1 #[] 0 (Nat.le_refl _) (Nat.zero_le _) rfl).alloc (.cells #[.string (strOfNums key), .int .i64 (md : Int)] 88)) (fun _ _ => rfl)
                      have BX5 : Below w1.heap.size w1 ((w1.alloc (.cells #[] 88)).alloc (.cells #[.string (strOfNums key), .int .i64 (md : Int)] 88)).drew := (Below.drew (below_alloc (below_alloc (Below.refl w1.heap.size w1) _) _))
                      obtain ⟨v2, w5, hr2, ho2, hg2, g5, c5, rfl⟩ := append_keys ((w1.alloc (.cells #[] 88)).alloc (.cells #[.string (strOfNums key), .int .i64 (md : Int)] 88)).drew w1.heap.size _ 0 [] (some ⟨gk, 0, none⟩) j ck (KY.take j) 83 OW ((KS0.out _ (Q2.out.after BX5)).take j) (by rw [List.length_take, HLK.out]; omega) (by omega) (by omega) BX5.size ⟨_, _, rfl⟩
                      simp only [Nat.zero_add, List.nil_append] at hr2 ho2
                      have BW5 : Below w1.heap.size w1 w5 := below_own BX5 OW BX5.size hg2
                      have KB0 : Blk (w1.heap.size + 1) #[.string (strOfNums key), .int .i64 (md : Int)] 88 ((w1.alloc (.cells #[] 88)).alloc (.cells #[.string (strOfNums key), .int .i64 (md : Int)] 88)).drew := (show Blk (w1.heap.size + 1) #[.string (strOfNums key), .int .i64 (md : Int)] 88 ((w1.alloc (.cells #[] 88)).alloc (.cells #[.string (strOfNums key), .int .i64 (md : Int)] 88)) from Blk.new (w1.alloc (.cells #[] 88)) _ _ (by simp))
                      have KB : Blk (w1.heap.size + 1) #[.string (strOfNums key), .int .i64 (md : Int)] 88 w5 := Blk.same KB0 (hg2.block _ KB0.lt (by simp [Value.ownBlock]))
                      clear OW BX5 hg2
                      refine step_append_run rfl (.tmp 133) (.tmp 137) _ _ rfl _ _ rfl rfl _ _ hr2 ?_
                      refine hK.out _ _ (HS.out _ (Q2.out.after BW5)) (fun hHeld => ?_)
                      clear hK K
                      try simp only [Act.put, List.setIfInBounds_toArray, List.set_cons_zero, List.set_cons_succ]
                      refine wpAnyH_ready (rs := [12]) (by kernel_rfl) (by simp) ?_
                      refine AllReadyH.cons (o := { dst := some 145, op := Op.call { callee := Callee.builtin Builtin.append, args := #[Operand.tmp 138, Operand.tmp 144], argTypes := #[83, 83] }, type := 83, pos := "ref.go:137", after := #[{ on := 5, ground := Ground.data }, { on := 11, ground := Ground.data }, { on := 5, ground := Ground.chain }], guard := none }) rfl (fun K hK => ?_) AllReadyH.nil
                      · skip
                        have OW5 := ho2
                        have BX6 := BW5
                        obtain ⟨v3, w6, hr3, ho3, hg3, g6, c6, rfl⟩ := append_keys w5 w1.heap.size _ j (kC (KY.take j)) (some ⟨w1.heap.size + 1, 0, none⟩) 1 1 [⟨key, md⟩] 83 OW5 (keyS_blk KB) rfl (by omega) (by omega) BX6.size ⟨_, _, rfl⟩
                        have BW6 : Below w1.heap.size w1 w6 := below_own BX6 OW5 BX6.size hg3
                        clear OW5 BX6 hg3 KB
                        refine step_append_run rfl (.tmp 138) (.tmp 144) _ _ rfl _ _ rfl rfl _ _ hr3 ?_
                        refine hK.out _ _ (HS.out _ (Q2.out.after BW6)) (fun hHeld => ?_)
                        clear hK K
                        try simp only [Act.put, List.setIfInBounds_toArray, List.set_cons_zero, List.set_cons_succ]
                        refine wpAnyH_take (i := 13) (oi := { dst := some 17, op := Op.assign (Operand.tmp 145), type := 83, pos := "ref.go:137", after := #[{ on := 12, ground := Ground.data }, { on := 12, ground := Ground.chain }, { on := 0, ground := Ground.phase }, { on := 1, ground := Ground.phase }, { on := 2, ground := Ground.phase }, { on := 3, ground := Ground.phase }, { on := 4, ground := Ground.phase }, { on := 5, ground := Ground.phase }, { on := 6, ground := Ground.phase }, { on := 7, ground := Ground.phase }, { on := 8, ground := Ground.phase }, { on := 9, ground := Ground.phase }, { on := 10, ground := Ground.phase }, { on := 11, ground := Ground.phase }, { on := 12, ground := Ground.phase }], guard := none }) (v := ?_) rfl (by kernel_rfl) (by kernel_rfl) (by kernel_rfl) (fun _ _ _ h => h) (Or.inl ⟨by rfl, ?_⟩) (by assumption) ?_
                        rotate_left 1
                        · intro w hSw; (try dsimp only at hSw); go_simp; try (with_reducible rfl)
                        try simp only [Act.put, List.setIfInBounds_toArray, List.set_cons_zero, List.set_cons_succ]
                        refine wpAnyH_done (by kernel_rfl) ?_ _
                        have V6 := Lib.hid BW6
                        have R6 := Lib.hid ho3
                        clear hHeld HS hr2 ho2 hr3 ho3 BW5 BW6
                        go_upto_region 28 with fail
                        have S1 := (SEE.out _ (Q2.out.after V6.out.drew).maps).2.1
                        refine wp_region_held_drew (S := fun w' => w'.cell? ⟨gt, 1, none⟩ = some (.slice (some ⟨gl, 0, none⟩) L.length cl)) (by kernel_rfl) S1 (fun hHeld => ?_)
                        clear S1
                        refine wpAnyH_take (i := 0) (oi := { dst := some 146, op := Op.move (Operand.tmp 0), type := 35, pos := "ref.go:138", after := #[], guard := none }) (v := ?_) rfl (by kernel_rfl) (by kernel_rfl) (by kernel_rfl) (fun _ _ _ h => h) (Or.inl ⟨by rfl, ?_⟩) (by assumption) ?_
                        rotate_left 1
                        · intro w hSw; (try dsimp only at hSw); go_simp; try (with_reducible rfl)
                        try simp only [Act.put, List.setIfInBounds_toArray, List.set_cons_zero, List.set_cons_succ]
                        refine wpAnyH_take (i := 1) (oi := { dst := some 147, op := Op.nilCheck (Operand.tmp 146), type := 0, pos := "ref.go:138", after := #[{ on := 0, ground := Ground.data }], guard := none }) (v := ?_) rfl (by kernel_rfl) (by kernel_rfl) (by kernel_rfl) (fun _ _ _ h => h) (Or.inl ⟨by rfl, ?_⟩) (by assumption) ?_
                        rotate_left 1
                        · intro w hSw; (try dsimp only at hSw); go_simp; try (with_reducible rfl)
                        try simp only [Act.put, List.setIfInBounds_toArray, List.set_cons_zero, List.set_cons_succ]
                        refine wpAnyH_take (i := 2) (oi := { dst := some 148, op := Op.fieldAddr 82 (Operand.tmp 147) 1, type := 0, pos := "ref.go:138", after := #[{ on := 1, ground := Ground.data }], guard := none }) (v := ?_) rfl (by kernel_rfl) (by kernel_rfl) (by kernel_rfl) (fun _ _ _ h => h) (Or.inl ⟨by rfl, ?_⟩) (by assumption) ?_
                        rotate_left 1
                        · intro w hSw; (try dsimp only at hSw); go_simp; try (with_reducible rfl)
                        try simp only [Act.put, List.setIfInBounds_toArray, List.set_cons_zero, List.set_cons_succ]
                        refine wpAnyH_take (i := 3) (oi := { dst := some 149, op := Op.load 80 (Operand.tmp 148), type := 80, pos := "ref.go:138", after := #[{ on := 2, ground := Ground.data }], guard := none }) (v := ?_) rfl (by kernel_rfl) (by kernel_rfl) (by kernel_rfl) (fun _ _ _ h => h) (Or.inl ⟨by rfl, ?_⟩) (by assumption) ?_
                        rotate_left 1
                        · intro w hSw; (try dsimp only at hSw); go_simp; try (with_reducible rfl)
                        try simp only [Act.put, List.setIfInBounds_toArray, List.set_cons_zero, List.set_cons_succ]
                        refine wpAnyH_take (i := 4) (oi := { dst := some 150, op := Op.move (Operand.tmp 1), type := 3, pos := "ref.go:138", after := #[], guard := none }) (v := ?_) rfl (by kernel_rfl) (by kernel_rfl) (by kernel_rfl) (fun _ _ _ h => h) (Or.inl ⟨by rfl, ?_⟩) (by assumption) ?_
                        rotate_left 1
                        · intro w hSw; (try dsimp only at hSw); go_simp; try (with_reducible rfl)
                        try simp only [Act.put, List.setIfInBounds_toArray, List.set_cons_zero, List.set_cons_succ]
                        refine wpAnyH_take (i := 5) (oi := { dst := some 151, op := Op.move (Operand.tmp 17), type := 83, pos := "ref.go:138", after := #[], guard := none }) (v := ?_) rfl (by kernel_rfl) (by kernel_rfl) (by kernel_rfl) (fun _ _ _ h => h) (Or.inl ⟨by rfl, ?_⟩) (by assumption) ?_
                        rotate_left 1
                        · intro w hSw; (try dsimp only at hSw); go_simp; try (with_reducible rfl)
                        try simp only [Act.put, List.setIfInBounds_toArray, List.set_cons_zero, List.set_cons_succ]
                        refine wpAnyH_take (i := 6) (oi := { dst := some 152, op := Op.move (Operand.tmp 16), type := 83, pos := "ref.go:138", after := #[], guard := none }) (v := ?_) rfl (by kernel_rfl) (by kernel_rfl) (by kernel_rfl) (fun _ _ _ h => h) (Or.inl ⟨by rfl, ?_⟩) (by assumption) ?_
                        rotate_left 1
                        · intro w hSw; (try dsimp only at hSw); go_simp; try (with_reducible rfl)
                        try simp only [Act.put, List.setIfInBounds_toArray, List.set_cons_zero, List.set_cons_succ]
                        refine wpAnyH_ready (rs := [7]) (by kernel_rfl) (by simp) ?_
                        refine AllReadyH.cons (o := { dst := some 153, op := Op.call { callee := Callee.builtin Builtin.append, args := #[Operand.tmp 151, Operand.tmp 152], argTypes := #[83, 83] }, type := 83, pos := "ref.go:138", after := #[{ on := 5, ground := Ground.data }, { on := 6, ground := Ground.data }], guard := none }) rfl (fun K hK => ?_) AllReadyH.nil
                        · skip
                          have BX7 : Below w1.heap.size w1 w6.drew := V6.out.drew
                          have OW7 := own_same (w' := w6.drew) R6.out (fun _ _ => rfl)
                          have KR : KeyS w6.drew (some ⟨g1, 0, none⟩) (KY.drop j) := (own_keyS (by rw [List.length_drop, HLK.out]) RO.out).after BX7
                          obtain ⟨v4, w7, hr4, ho4, hg4, g7, c7, rfl⟩ := append_keys w6.drew w1.heap.size _ (j + 1) _ (some ⟨g1, 0, none⟩) (lk - j) c1 (KY.drop j) 83 OW7 KR (by rw [List.length_drop, HLK.out]) (by omega) (by omega) BX7.size ⟨_, _, rfl⟩
                          rw [show j + 1 + (lk - j) = lk + 1 by omega] at hr4 ho4
                          have BW7 : Below w1.heap.size w1 w7 := below_own BX7 OW7 BX7.size hg4
                          have DN := Lib.hid (DONE.out w7 _ BW7 (by rw [← kC_app, ← kC_app, List.append_assoc] at ho4; rw [TI.out]; exact ho4))
                          have SE := SEE.out w7 (Q2.out.after BW7).maps
                          obtain ⟨-, z1, -, -, -, -, z4, z5, zf4, zf5, -⟩ := SE
                          have T1 : (w7.setCell ⟨gl, k * 6 + 4, none⟩ (.slice (some ⟨g7, 0, none⟩) (lk + 1) c7)).cell? ⟨gt, 1, none⟩ = some (.slice (some ⟨gl, 0, none⟩) L.length cl) := (World.cell?_of_block (Below.heap_setCell _ _ _ _ HGT.out)).trans z1
                          have T5 : (w7.setCell ⟨gl, k * 6 + 4, none⟩ (.slice (some ⟨g7, 0, none⟩) (lk + 1) c7)).cell? ⟨gl, k * 6 + 5, none⟩ = some (.int .i64 (md : Int)) := by rw [← z5]; exact cell_setCell_off w7 gl (k * 6 + 4) (k * 6 + 5) _ (by omega)
                          have T6 : (w7.setCell ⟨gl, k * 6 + 4, none⟩ (.slice (some ⟨g7, 0, none⟩) (lk + 1) c7)).frozen? ⟨gl, k * 6 + 5, none⟩ = false := by rw [World.frozen?_setCell]; exact zf5
                          clear OW7 KR hg4 BX7 ho4 z5 zf5
                          refine step_append_run rfl (.tmp 151) (.tmp 152) _ _ rfl _ _ rfl rfl _ _ hr4 ?_
                          refine hK.out _ _ z1 (fun hHeld => ?_)
                          clear hK K
                          try simp only [Act.put, List.setIfInBounds_toArray, List.set_cons_zero, List.set_cons_succ]
                          refine wpAnyH_take (i := 8) (oi := { dst := some 154, op := Op.indexAddr 80 (Operand.tmp 149) (Operand.tmp 150), type := 0, pos := "ref.go:138", after := #[{ on := 3, ground := Ground.data }, { on := 4, ground := Ground.data }, { on := 0, ground := Ground.phase }, { on := 1, ground := Ground.phase }, { on := 2, ground := Ground.phase }, { on := 3, ground := Ground.phase }, { on := 4, ground := Ground.phase }, { on := 5, ground := Ground.phase }, { on := 6, ground := Ground.phase }, { on := 7, ground := Ground.phase }], guard := none }) (v := ?_) rfl (by kernel_rfl) (by kernel_rfl) (by kernel_rfl) (fun _ _ _ h => h) (Or.inl ⟨by rfl, ?_⟩) (by assumption) ?_
                          rotate_left 1
                          · intro w hSw; (try dsimp only at hSw); go_simp; try (with_reducible rfl)
                          try simp only [Act.put, List.setIfInBounds_toArray, List.set_cons_zero, List.set_cons_succ]
                          refine wpAnyH_take (i := 9) (oi := { dst := some 155, op := Op.fieldAddr 85 (Operand.tmp 154) 1, type := 0, pos := "ref.go:138", after := #[{ on := 8, ground := Ground.data }, { on := 0, ground := Ground.phase }, { on := 1, ground := Ground.phase }, { on := 2, ground := Ground.phase }, { on := 3, ground := Ground.phase }, { on := 4, ground := Ground.phase }, { on := 5, ground := Ground.phase }, { on := 6, ground := Ground.phase }, { on := 7, ground := Ground.phase }], guard := none }) (v := ?_) rfl (by kernel_rfl) (by kernel_rfl) (by kernel_rfl) (fun _ _ _ h => h) (Or.inl ⟨by rfl, ?_⟩) (by assumption) ?_
                          rotate_left 1
                          · intro w hSw; (try dsimp only at hSw); go_simp; try (with_reducible rfl)
                          try simp only [Act.put, List.setIfInBounds_toArray, List.set_cons_zero, List.set_cons_succ]
                          refine wpAnyH_ready (rs := [10]) (by kernel_rfl) (by simp) ?_
                          refine AllReadyH.cons (o := { dst := none, op := Op.store 83 (Operand.tmp 155) (Operand.tmp 153), type := 0, pos := "ref.go:138", after := #[{ on := 9, ground := Ground.data }, { on := 7, ground := Ground.data }, { on := 7, ground := Ground.chain }, { on := 0, ground := Ground.phase }, { on := 1, ground := Ground.phase }, { on := 2, ground := Ground.phase }, { on := 3, ground := Ground.phase }, { on := 4, ground := Ground.phase }, { on := 5, ground := Ground.phase }, { on := 6, ground := Ground.phase }, { on := 7, ground := Ground.phase }], guard := none }) rfl (fun K hK => ?_) AllReadyH.nil
                          · skip
                            go_simp
                            refine hK.out _ _ T1 (fun hHeld => ?_)
                            clear hK K
                            try simp only [Act.put, List.setIfInBounds_toArray, List.set_cons_zero, List.set_cons_succ]
                            refine wpAnyH_done (by kernel_rfl) ?_ _
                            clear hHeld z1 z4 zf4 hr4
                            go_wp2_with fail
                            go_ret2
                            exact DN.out
                · skip
                  go_simp
                  refine hK.out _ _ (HS.out _ (Q2.out.after (Below.drew (below_alloc (Below.refl w1.heap.size w1) _)))) (fun hHeld => ?_)
                  clear hK K
                  try simp only [Act.put, List.setIfInBounds_toArray, List.set_cons_zero, List.set_cons_succ]
                  refine wpAnyH_ready (rs := [0]) (by kernel_rfl) (by simp) ?_
                  refine AllReadyH.cons (o := { dst := some 133, op := Op.buildSlice 83 0 #[], type := 83, pos := "ref.go:137", after := #[], guard := none }) rfl (fun K hK => ?_) AllReadyH.nil
                  · skip
                    go_simp
                    refine hK.out _ _ (HS.out _ (Q2.out.after (Below.drew (below_alloc (below_alloc (Below.refl w1.heap.size w1) _) _)))) (fun hHeld => ?_)
                    clear hK K
                    try simp only [Act.put, List.setIfInBounds_toArray, List.set_cons_zero, List.set_cons_succ]
                    refine wpAnyH_ready (rs := [5]) (by kernel_rfl) (by simp) ?_
                    refine AllReadyH.cons (o := { dst := some 138, op := Op.call { callee := Callee.builtin Builtin.append, args := #[Operand.tmp 133, Operand.tmp 137], argTypes := #[83, 83] }, type := 83, pos := "ref.go:137", after := #[{ on := 0, ground := Ground.data }, { on := 4, ground := Ground.data }], guard := none }) rfl (fun K hK => ?_) AllReadyH.nil
                    · skip
                      have OW : ((w1.alloc (.cells #[.string (strOfNums key), .int .i64 (md : Int)] 88)).alloc (.cells #[] 88)).drew.ownsRow w1.heap.size 88 2 (.slice (some ⟨w1.heap.size + 1, 0, none⟩) 0 0) 0 [] := own_same (w := ((w1.alloc (.cells #[.string (strOfNums key), .int .i64 (md : Int)] 88)).alloc (.cells #[] 88))) (by have q := World.ownsRow_made (base := w1.heap.size) (e := 88) (size := 2) (w1.alloc (.cells #[.string (strOfNums key), .int .i64 (md : Int)] 88)) #[] 0 (by simp) (Nat.zero_le _) rfl; rw [show (w1.alloc (.cells #[.string (strOfNums key), .int .i64 (md : Int)] 88)).heap.size = w1.heap.size + 1 by simp] at q; exact q) (fun _ _ => rfl)
                      have BX5 : Below w1.heap.size w1 ((w1.alloc (.cells #[.string (strOfNums key), .int .i64 (md : Int)] 88)).alloc (.cells #[] 88)).drew := (Below.drew (below_alloc (below_alloc (Below.refl w1.heap.size w1) _) _))
                      obtain ⟨v2, w5, hr2, ho2, hg2, g5, c5, rfl⟩ := append_keys ((w1.alloc (.cells #[.string (strOfNums key), .int .i64 (md : Int)] 88)).alloc (.cells #[] 88)).drew w1.heap.size _ 0 [] (some ⟨gk, 0, none⟩) j ck (KY.take j) 83 OW ((KS0.out _ (Q2.out.after BX5)).take j) (by rw [List.length_take, HLK.out]; omega) (by omega) (by omega) BX5.size ⟨_, _, rfl⟩
                      simp only [Nat.zero_add, List.nil_append] at hr2 ho2
                      have BW5 : Below w1.heap.size w1 w5 := below_own BX5 OW BX5.size hg2
                      have KB0 : Blk (w1.heap.size) #[.string (strOfNums key), .int .i64 (md : Int)] 88 ((w1.alloc (.cells #[.string (strOfNums key), .int .i64 (md : Int)] 88)).alloc (.cells #[] 88)).drew := (show Blk (w1.heap.size) #[.string (strOfNums key), .int .i64 (md : Int)] 88 ((w1.alloc (.cells #[.string (strOfNums key), .int .i64 (md : Int)] 88)).alloc (.cells #[] 88)) from Blk.after (Blk.new w1 _ _ rfl) (below_alloc (Below.refl _ _) _))
                      have KB : Blk (w1.heap.size) #[.string (strOfNums key), .int .i64 (md : Int)] 88 w5 := Blk.same KB0 (hg2.block _ KB0.lt (by simp [Value.ownBlock]))
                      clear OW BX5 hg2
                      refine step_append_run rfl (.tmp 133) (.tmp 137) _ _ rfl _ _ rfl rfl _ _ hr2 ?_
                      refine hK.out _ _ (HS.out _ (Q2.out.after BW5)) (fun hHeld => ?_)
                      clear hK K
                      try simp only [Act.put, List.setIfInBounds_toArray, List.set_cons_zero, List.set_cons_succ]
                      refine wpAnyH_ready (rs := [12]) (by kernel_rfl) (by simp) ?_
                      refine AllReadyH.cons (o := { dst := some 145, op := Op.call { callee := Callee.builtin Builtin.append, args := #[Operand.tmp 138, Operand.tmp 144], argTypes := #[83, 83] }, type := 83, pos := "ref.go:137", after := #[{ on := 5, ground := Ground.data }, { on := 11, ground := Ground.data }, { on := 5, ground := Ground.chain }], guard := none }) rfl (fun K hK => ?_) AllReadyH.nil
                      · skip
                        have OW5 := ho2
                        have BX6 := BW5
                        obtain ⟨v3, w6, hr3, ho3, hg3, g6, c6, rfl⟩ := append_keys w5 w1.heap.size _ j (kC (KY.take j)) (some ⟨w1.heap.size, 0, none⟩) 1 1 [⟨key, md⟩] 83 OW5 (keyS_blk KB) rfl (by omega) (by omega) BX6.size ⟨_, _, rfl⟩
                        have BW6 : Below w1.heap.size w1 w6 := below_own BX6 OW5 BX6.size hg3
                        clear OW5 BX6 hg3 KB
                        refine step_append_run rfl (.tmp 138) (.tmp 144) _ _ rfl _ _ rfl rfl _ _ hr3 ?_
                        refine hK.out _ _ (HS.out _ (Q2.out.after BW6)) (fun hHeld => ?_)
                        clear hK K
                        try simp only [Act.put, List.setIfInBounds_toArray, List.set_cons_zero, List.set_cons_succ]
                        refine wpAnyH_take (i := 13) (oi := { dst := some 17, op := Op.assign (Operand.tmp 145), type := 83, pos := "ref.go:137", after := #[{ on := 12, ground := Ground.data }, { on := 12, ground := Ground.chain }, { on := 0, ground := Ground.phase }, { on := 1, ground := Ground.phase }, { on := 2, ground := Ground.phase }, { on := 3, ground := Ground.phase }, { on := 4, ground := Ground.phase }, { on := 5, ground := Ground.phase }, { on := 6, ground := Ground.phase }, { on := 7, ground := Ground.phase }, { on := 8, ground := Ground.phase }, { on := 9, ground := Ground.phase }, { on := 10, ground := Ground.phase }, { on := 11, ground := Ground.phase }, { on := 12, ground := Ground.phase }], guard := none }) (v := ?_) rfl (by kernel_rfl) (by kernel_rfl) (by kernel_rfl) (fun _ _ _ h => h) (Or.inl ⟨by rfl, ?_⟩) (by assumption) ?_
                        rotate_left 1
                        · intro w hSw; (try dsimp only at hSw); go_simp; try (with_reducible rfl)
                        try simp only [Act.put, List.setIfInBounds_toArray, List.set_cons_zero, List.set_cons_succ]
                        refine wpAnyH_done (by kernel_rfl) ?_ _
                        have V6 := Lib.hid BW6
                        have R6 := Lib.hid ho3
                        clear hHeld HS hr2 ho2 hr3 ho3 BW5 BW6
                        go_upto_region 28 with fail
                        have S1 := (SEE.out _ (Q2.out.after V6.out.drew).maps).2.1
                        refine wp_region_held_drew (S := fun w' => w'.cell? ⟨gt, 1, none⟩ = some (.slice (some ⟨gl, 0, none⟩) L.length cl)) (by kernel_rfl) S1 (fun hHeld => ?_)
                        clear S1
                        refine wpAnyH_take (i := 0) (oi := { dst := some 146, op := Op.move (Operand.tmp 0), type := 35, pos := "ref.go:138", after := #[], guard := none }) (v := ?_) rfl (by kernel_rfl) (by kernel_rfl) (by kernel_rfl) (fun _ _ _ h => h) (Or.inl ⟨by rfl, ?_⟩) (by assumption) ?_
                        rotate_left 1
                        · intro w hSw; (try dsimp only at hSw); go_simp; try (with_reducible rfl)
                        try simp only [Act.put, List.setIfInBounds_toArray, List.set_cons_zero, List.set_cons_succ]
                        refine wpAnyH_take (i := 1) (oi := { dst := some 147, op := Op.nilCheck (Operand.tmp 146), type := 0, pos := "ref.go:138", after := #[{ on := 0, ground := Ground.data }], guard := none }) (v := ?_) rfl (by kernel_rfl) (by kernel_rfl) (by kernel_rfl) (fun _ _ _ h => h) (Or.inl ⟨by rfl, ?_⟩) (by assumption) ?_
                        rotate_left 1
                        · intro w hSw; (try dsimp only at hSw); go_simp; try (with_reducible rfl)
                        try simp only [Act.put, List.setIfInBounds_toArray, List.set_cons_zero, List.set_cons_succ]
                        refine wpAnyH_take (i := 2) (oi := { dst := some 148, op := Op.fieldAddr 82 (Operand.tmp 147) 1, type := 0, pos := "ref.go:138", after := #[{ on := 1, ground := Ground.data }], guard := none }) (v := ?_) rfl (by kernel_rfl) (by kernel_rfl) (by kernel_rfl) (fun _ _ _ h => h) (Or.inl ⟨by rfl, ?_⟩) (by assumption) ?_
                        rotate_left 1
                        · intro w hSw; (try dsimp only at hSw); go_simp; try (with_reducible rfl)
                        try simp only [Act.put, List.setIfInBounds_toArray, List.set_cons_zero, List.set_cons_succ]
                        refine wpAnyH_take (i := 3) (oi := { dst := some 149, op := Op.load 80 (Operand.tmp 148), type := 80, pos := "ref.go:138", after := #[{ on := 2, ground := Ground.data }], guard := none }) (v := ?_) rfl (by kernel_rfl) (by kernel_rfl) (by kernel_rfl) (fun _ _ _ h => h) (Or.inl ⟨by rfl, ?_⟩) (by assumption) ?_
                        rotate_left 1
                        · intro w hSw; (try dsimp only at hSw); go_simp; try (with_reducible rfl)
                        try simp only [Act.put, List.setIfInBounds_toArray, List.set_cons_zero, List.set_cons_succ]
                        refine wpAnyH_take (i := 4) (oi := { dst := some 150, op := Op.move (Operand.tmp 1), type := 3, pos := "ref.go:138", after := #[], guard := none }) (v := ?_) rfl (by kernel_rfl) (by kernel_rfl) (by kernel_rfl) (fun _ _ _ h => h) (Or.inl ⟨by rfl, ?_⟩) (by assumption) ?_
                        rotate_left 1
                        · intro w hSw; (try dsimp only at hSw); go_simp; try (with_reducible rfl)
                        try simp only [Act.put, List.setIfInBounds_toArray, List.set_cons_zero, List.set_cons_succ]
                        refine wpAnyH_take (i := 5) (oi := { dst := some 151, op := Op.move (Operand.tmp 17), type := 83, pos := "ref.go:138", after := #[], guard := none }) (v := ?_) rfl (by kernel_rfl) (by kernel_rfl) (by kernel_rfl) (fun _ _ _ h => h) (Or.inl ⟨by rfl, ?_⟩) (by assumption) ?_
                        rotate_left 1
                        · intro w hSw; (try dsimp only at hSw); go_simp; try (with_reducible rfl)
                        try simp only [Act.put, List.setIfInBounds_toArray, List.set_cons_zero, List.set_cons_succ]
                        refine wpAnyH_take (i := 6) (oi := { dst := some 152, op := Op.move (Operand.tmp 16), type := 83, pos := "ref.go:138", after := #[], guard := none }) (v := ?_) rfl (by kernel_rfl) (by kernel_rfl) (by kernel_rfl) (fun _ _ _ h => h) (Or.inl ⟨by rfl, ?_⟩) (by assumption) ?_
                        rotate_left 1
                        · intro w hSw; (try dsimp only at hSw); go_simp; try (with_reducible rfl)
                        try simp only [Act.put, List.setIfInBounds_toArray, List.set_cons_zero, List.set_cons_succ]
                        refine wpAnyH_ready (rs := [7]) (by kernel_rfl) (by simp) ?_
                        refine AllReadyH.cons (o := { dst := some 153, op := Op.call { callee := Callee.builtin Builtin.append, args := #[Operand.tmp 151, Operand.tmp 152], argTypes := #[83, 83] }, type := 83, pos := "ref.go:138", after := #[{ on := 5, ground := Ground.data }, { on := 6, ground := Ground.data }], guard := none }) rfl (fun K hK => ?_) AllReadyH.nil
                        · skip
                          have BX7 : Below w1.heap.size w1 w6.drew := V6.out.drew
                          have OW7 := own_same (w' := w6.drew) R6.out (fun _ _ => rfl)
                          have KR : KeyS w6.drew (some ⟨g1, 0, none⟩) (KY.drop j) := (own_keyS (by rw [List.length_drop, HLK.out]) RO.out).after BX7
                          obtain ⟨v4, w7, hr4, ho4, hg4, g7, c7, rfl⟩ := append_keys w6.drew w1.heap.size _ (j + 1) _ (some ⟨g1, 0, none⟩) (lk - j) c1 (KY.drop j) 83 OW7 KR (by rw [List.length_drop, HLK.out]) (by omega) (by omega) BX7.size ⟨_, _, rfl⟩
                          rw [show j + 1 + (lk - j) = lk + 1 by omega] at hr4 ho4
                          have BW7 : Below w1.heap.size w1 w7 := below_own BX7 OW7 BX7.size hg4
                          have DN := Lib.hid (DONE.out w7 _ BW7 (by rw [← kC_app, ← kC_app, List.append_assoc] at ho4; rw [TI.out]; exact ho4))
                          have SE := SEE.out w7 (Q2.out.after BW7).maps
                          obtain ⟨-, z1, -, -, -, -, z4, z5, zf4, zf5, -⟩ := SE
                          have T1 : (w7.setCell ⟨gl, k * 6 + 4, none⟩ (.slice (some ⟨g7, 0, none⟩) (lk + 1) c7)).cell? ⟨gt, 1, none⟩ = some (.slice (some ⟨gl, 0, none⟩) L.length cl) := (World.cell?_of_block (Below.heap_setCell _ _ _ _ HGT.out)).trans z1
                          have T5 : (w7.setCell ⟨gl, k * 6 + 4, none⟩ (.slice (some ⟨g7, 0, none⟩) (lk + 1) c7)).cell? ⟨gl, k * 6 + 5, none⟩ = some (.int .i64 (md : Int)) := by rw [← z5]; exact cell_setCell_off w7 gl (k * 6 + 4) (k * 6 + 5) _ (by omega)
                          have T6 : (w7.setCell ⟨gl, k * 6 + 4, none⟩ (.slice (some ⟨g7, 0, none⟩) (lk + 1) c7)).frozen? ⟨gl, k * 6 + 5, none⟩ = false := by rw [World.frozen?_setCell]; exact zf5
                          clear OW7 KR hg4 BX7 ho4 z5 zf5
                          refine step_append_run rfl (.tmp 151) (.tmp 152) _ _ rfl _ _ rfl rfl _ _ hr4 ?_
                          refine hK.out _ _ z1 (fun hHeld => ?_)
                          clear hK K
                          try simp only [Act.put, List.setIfInBounds_toArray, List.set_cons_zero, List.set_cons_succ]
                          refine wpAnyH_take (i := 8) (oi := { dst := some 154, op := Op.indexAddr 80 (Operand.tmp 149) (Operand.tmp 150), type := 0, pos := "ref.go:138", after := #[{ on := 3, ground := Ground.data }, { on := 4, ground := Ground.data }, { on := 0, ground := Ground.phase }, { on := 1, ground := Ground.phase }, { on := 2, ground := Ground.phase }, { on := 3, ground := Ground.phase }, { on := 4, ground := Ground.phase }, { on := 5, ground := Ground.phase }, { on := 6, ground := Ground.phase }, { on := 7, ground := Ground.phase }], guard := none }) (v := ?_) rfl (by kernel_rfl) (by kernel_rfl) (by kernel_rfl) (fun _ _ _ h => h) (Or.inl ⟨by rfl, ?_⟩) (by assumption) ?_
                          rotate_left 1
                          · intro w hSw; (try dsimp only at hSw); go_simp; try (with_reducible rfl)
                          try simp only [Act.put, List.setIfInBounds_toArray, List.set_cons_zero, List.set_cons_succ]
                          refine wpAnyH_take (i := 9) (oi := { dst := some 155, op := Op.fieldAddr 85 (Operand.tmp 154) 1, type := 0, pos := "ref.go:138", after := #[{ on := 8, ground := Ground.data }, { on := 0, ground := Ground.phase }, { on := 1, ground := Ground.phase }, { on := 2, ground := Ground.phase }, { on := 3, ground := Ground.phase }, { on := 4, ground := Ground.phase }, { on := 5, ground := Ground.phase }, { on := 6, ground := Ground.phase }, { on := 7, ground := Ground.phase }], guard := none }) (v := ?_) rfl (by kernel_rfl) (by kernel_rfl) (by kernel_rfl) (fun _ _ _ h => h) (Or.inl ⟨by rfl, ?_⟩) (by assumption) ?_
                          rotate_left 1
                          · intro w hSw; (try dsimp only at hSw); go_simp; try (with_reducible rfl)
                          try simp only [Act.put, List.setIfInBounds_toArray, List.set_cons_zero, List.set_cons_succ]
                          refine wpAnyH_ready (rs := [10]) (by kernel_rfl) (by simp) ?_
                          refine AllReadyH.cons (o := { dst := none, op := Op.store 83 (Operand.tmp 155) (Operand.tmp 153), type := 0, pos := "ref.go:138", after := #[{ on := 9, ground := Ground.data }, { on := 7, ground := Ground.data }, { on := 7, ground := Ground.chain }, { on := 0, ground := Ground.phase }, { on := 1, ground := Ground.phase }, { on := 2, ground := Ground.phase }, { on := 3, ground := Ground.phase }, { on := 4, ground := Ground.phase }, { on := 5, ground := Ground.phase }, { on := 6, ground := Ground.phase }, { on := 7, ground := Ground.phase }], guard := none }) rfl (fun K hK => ?_) AllReadyH.nil
                          · skip
                            go_simp
                            refine hK.out _ _ T1 (fun hHeld => ?_)
                            clear hK K
                            try simp only [Act.put, List.setIfInBounds_toArray, List.set_cons_zero, List.set_cons_succ]
                            refine wpAnyH_done (by kernel_rfl) ?_ _
                            clear hHeld z1 z4 zf4 hr4
                            go_wp2_with fail
                            go_ret2
                            exact DN.out
              · have HT2 : Hid (∀ t, t < j + 1 → kLt (kAt KY t).k key = true) := Lib.hid fun t ht => by
                  by_cases e : t = j
                  · rw [e]; exact hab
                  · exact HT.out t (by omega)
                rw [hab] at hlt2
                generalize (strOfNums (kAt KY j).k) = kj at *
                go_wp2_with fail
                go_quiet (fail)
                have QN := Lib.hid (QD.out nq)
                clear QD hst' X4
                generalize wr.drewN nq = wq at *
                go_wp2_with fail
                go_round
                case rel => exact ⟨j + 1, by go_num, by omega, HT2, QN⟩
                case measure => simp [intOf]; omega
            · have hjn : j = lk := by omega
              subst j
              have TI : Hid (tIns KY ⟨key, md⟩ = KY.take lk ++ ⟨key, md⟩ :: KY.drop lk) := Lib.hid (tIns_at (by rw [HLK.out]; omega) HT.out (fun h => by rw [HLK.out] at h; omega))
              have QD : Hid (∀ q, PutS w gt g2 vl L F G M4 (wr.drewN q) G4 gx #[.bool true, .int .i64 (trAt L k).m.d.key, .int .i64 (trAt L k).m.d.val, .int .i64 (trAt L k).m.d.max, .slice (some ⟨gk, 0, none⟩) lk ck, .int .i64 (md : Int)]) := Lib.hid fun q => Q.out.after (below_drewN (Below.refl _ _) q)
              go_wp2_with fail
              go_quiet (fail)
              have QN := Lib.hid (QD.out nq)
              clear QD X4 Q x4 KS
              generalize wr.drewN nq = wq at *
              have Q := QN
              clear QN
              have KS0 : Hid (∀ u, PutS w gt g2 vl L F G M4 u G4 gx #[.bool true, .int .i64 (trAt L k).m.d.key, .int .i64 (trAt L k).m.d.val, .int .i64 (trAt L k).m.d.max, .slice (some ⟨gk, 0, none⟩) lk ck, .int .i64 (md : Int)] → KeyS u (some ⟨gk, 0, none⟩) KY) := Lib.hid fun u q => (SEE.out u q.maps).2.2.2.2.2.2.2.2.2.2
              have Q1 : Hid (PutS w gt g2 vl L F G M4 (wq.alloc (.cells #[] 88)) G4 gx #[.bool true, .int .i64 (trAt L k).m.d.key, .int .i64 (trAt L k).m.d.val, .int .i64 (trAt L k).m.d.max, .slice (some ⟨gk, 0, none⟩) lk ck, .int .i64 (md : Int)]) := Lib.hid (Q.out.after (below_alloc (Below.refl _ _) _))
              have OW := World.ownsRow_made (base := wq.heap.size) (e := 88) (size := 2) wq #[] 0 (Nat.le_refl _) (Nat.zero_le _) rfl
              have KD : KeyS (wq.alloc (.cells #[] 88)) (if ck = lk then some ⟨gk, 0, none⟩ else some ⟨gk, lk * 2, none⟩) (KY.drop lk) := by rw [List.drop_eq_nil_of_le (by rw [HLK.out]; omega)]; exact fun h => absurd h (by simp)
              obtain ⟨v1, w1, hr1, ho1, hg1, g1, c1, rfl⟩ := append_keys (wq.alloc (.cells #[] 88)) wq.heap.size _ 0 [] (if ck = lk then some ⟨gk, 0, none⟩ else some ⟨gk, lk * 2, none⟩) 0 (ck - lk) (KY.drop lk) 83 OW KD (by rw [List.length_drop, HLK.out]; omega) (by omega) (by omega) (by simp) ⟨_, _, rfl⟩
              simp only [Nat.zero_add, List.nil_append] at hr1 ho1
              have BW1 : Below wq.heap.size wq w1 := below_own (below_alloc (Below.refl _ _) _) OW (by simp) hg1
              have Q2 : Hid (PutS w gt g2 vl L F G M4 w1 G4 gx #[.bool true, .int .i64 (trAt L k).m.d.key, .int .i64 (trAt L k).m.d.val, .int .i64 (trAt L k).m.d.max, .slice (some ⟨gk, 0, none⟩) lk ck, .int .i64 (md : Int)]) := Lib.hid (Q.out.after BW1)
              have RO := Lib.hid ho1
              have GWQ : Hid (w.heap.size ≤ wq.heap.size ∧ wq.heap.size ≤ w1.heap.size) := Lib.hid ⟨Q.out.turn.size, BW1.size⟩
              have y4 := Q1.out.var.cell 4
              clear OW KD ho1 hg1 BW1 Q Q1
              go_wp2_with ((at_builtin; refine Lib.wpList_append_run _ rfl (.tmp 127) (.tmp 131) _ _ rfl _ _ rfl rfl _ _ hr1 ?_))
              all_goals
                clear hr1 y4
                go_upto_region 27 with fail
                have DONE : Hid (∀ u v, Below w1.heap.size w1 u → u.ownsRow w1.heap.size 88 2 v (lk + 1) (kC (tIns KY ⟨key, md⟩)) → PutW gt g2 F G R w (.returned (.tuple #[.int .u64 0, .int .i64 0])) ((u.setCell ⟨gl, k * 6 + 4, none⟩ v).setCell ⟨gl, k * 6 + 5, none⟩ (.int .i64 ((md : Int) + 1)))) := Lib.hid fun u v hb1 ho1 => by
                  rw [HE.out]
                  exact put_done Q2.out hk HVL.out (by rw [tIns_len, HLK.out]; exact ho1) HIO.out hb1
                have HS : Hid (∀ u, PutS w gt g2 vl L F G M4 u G4 gx #[.bool true, .int .i64 (trAt L k).m.d.key, .int .i64 (trAt L k).m.d.val, .int .i64 (trAt L k).m.d.max, .slice (some ⟨gk, 0, none⟩) lk ck, .int .i64 (md : Int)] → u.cell? ⟨gx, 4, none⟩ = some (.slice (some ⟨gk, 0, none⟩) lk ck) ∧ u.cell? ⟨gx, 5, none⟩ = some (.int .i64 (md : Int)) ∧ (convert 40 9 (.slice B n d)).run Try.prog u = .ok (.string (strOfNums key)) u) := Lib.hid fun u q => ⟨q.var.cell 4, q.var.cell 5, ST.out u q.turn⟩
                refine wp_region_held_drew (S := fun w' => w'.cell? ⟨gx, 4, none⟩ = some (.slice (some ⟨gk, 0, none⟩) lk ck) ∧ w'.cell? ⟨gx, 5, none⟩ = some (.int .i64 (md : Int)) ∧ (convert 40 9 (.slice B n d)).run Try.prog w' = .ok (.string (strOfNums key)) w') (by kernel_rfl) (HS.out _ (Q2.out.after (Below.drew (Below.refl _ _)))) (fun hHeld => ?_)
                refine wpAnyH_take (i := 1) (oi := { dst := some 134, op := Op.fieldAddr 85 (Operand.tmp 13) 1, type := 0, pos := "ref.go:137", after := #[], guard := none }) (v := ?_) rfl (by kernel_rfl) (by kernel_rfl) (by kernel_rfl) (fun _ _ _ h => h) (Or.inl ⟨by rfl, ?_⟩) (by assumption) ?_
                rotate_left 1
                · intro w hSw; (try dsimp only at hSw); go_simp; try (with_reducible rfl)
                try simp only [Act.put, List.setIfInBounds_toArray, List.set_cons_zero, List.set_cons_succ]
                refine wpAnyH_take (i := 2) (oi := { dst := some 135, op := Op.load 83 (Operand.tmp 134), type := 83, pos := "ref.go:137", after := #[{ on := 1, ground := Ground.data }], guard := none }) (v := ?_) rfl (by kernel_rfl) (by kernel_rfl) (by kernel_rfl) (fun _ _ _ h => h) (Or.inl ⟨by rfl, ?_⟩) (by assumption) ?_
                rotate_left 1
                · intro w hSw; (try dsimp only at hSw); go_simp; try (with_reducible rfl)
                try simp only [Act.put, List.setIfInBounds_toArray, List.set_cons_zero, List.set_cons_succ]
                refine wpAnyH_take (i := 3) (oi := { dst := some 136, op := Op.move (Operand.tmp 15), type := 3, pos := "ref.go:137", after := #[], guard := none }) (v := ?_) rfl (by kernel_rfl) (by kernel_rfl) (by kernel_rfl) (fun _ _ _ h => h) (Or.inl ⟨by rfl, ?_⟩) (by assumption) ?_
                rotate_left 1
                · intro w hSw; (try dsimp only at hSw); go_simp; try (with_reducible rfl)
                try simp only [Act.put, List.setIfInBounds_toArray, List.set_cons_zero, List.set_cons_succ]
                refine wpAnyH_take (i := 4) (oi := { dst := some 137, op := Op.slice 83 (Operand.tmp 135) none (some (Operand.tmp 136)) none, type := 83, pos := "ref.go:137", after := #[{ on := 2, ground := Ground.data }, { on := 3, ground := Ground.data }], guard := none }) (v := ?_) rfl (by kernel_rfl) (by kernel_rfl) (by kernel_rfl) (fun _ _ _ h => h) (Or.inl ⟨by rfl, ?_⟩) (by assumption) ?_
                rotate_left 1
                · intro w hSw; (try dsimp only at hSw); go_simp; try (with_reducible rfl)
                try simp only [Act.put, List.setIfInBounds_toArray, List.set_cons_zero, List.set_cons_succ]
                refine wpAnyH_take (i := 6) (oi := { dst := some 139, op := Op.move (Operand.tmp 2), type := 40, pos := "ref.go:137", after := #[], guard := none }) (v := ?_) rfl (by kernel_rfl) (by kernel_rfl) (by kernel_rfl) (fun _ _ _ h => h) (Or.inl ⟨by rfl, ?_⟩) (by assumption) ?_
                rotate_left 1
                · intro w hSw; (try dsimp only at hSw); go_simp; try (with_reducible rfl)
                try simp only [Act.put, List.setIfInBounds_toArray, List.set_cons_zero, List.set_cons_succ]
                refine wpAnyH_take (i := 7) (oi := { dst := some 140, op := Op.convert 40 9 (Operand.tmp 139), type := 9, pos := "ref.go:137", after := #[{ on := 6, ground := Ground.data }], guard := none }) (v := ?_) rfl (by kernel_rfl) (by kernel_rfl) (by kernel_rfl) (fun _ _ _ h => h) (Or.inl ⟨by rfl, ?_⟩) (by assumption) ?_
                rotate_left 1
                · intro w hSw; (try dsimp only at hSw); go_simp; try (with_reducible rfl)
                try simp only [Act.put, List.setIfInBounds_toArray, List.set_cons_zero, List.set_cons_succ]
                refine wpAnyH_take (i := 8) (oi := { dst := some 141, op := Op.fieldAddr 85 (Operand.tmp 13) 2, type := 0, pos := "ref.go:137", after := #[], guard := none }) (v := ?_) rfl (by kernel_rfl) (by kernel_rfl) (by kernel_rfl) (fun _ _ _ h => h) (Or.inl ⟨by rfl, ?_⟩) (by assumption) ?_
                rotate_left 1
                · intro w hSw; (try dsimp only at hSw); go_simp; try (with_reducible rfl)
                try simp only [Act.put, List.setIfInBounds_toArray, List.set_cons_zero, List.set_cons_succ]
                refine wpAnyH_take (i := 9) (oi := { dst := some 142, op := Op.load 3 (Operand.tmp 141), type := 3, pos := "ref.go:137", after := #[{ on := 8, ground := Ground.data }], guard := none }) (v := ?_) rfl (by kernel_rfl) (by kernel_rfl) (by kernel_rfl) (fun _ _ _ h => h) (Or.inl ⟨by rfl, ?_⟩) (by assumption) ?_
                rotate_left 1
                · intro w hSw; (try dsimp only at hSw); go_simp; try (with_reducible rfl)
                try simp only [Act.put, List.setIfInBounds_toArray, List.set_cons_zero, List.set_cons_succ]
                refine wpAnyH_take (i := 10) (oi := { dst := some 143, op := Op.build 88 #[(0, Operand.tmp 140), (1, Operand.tmp 142)], type := 88, pos := "ref.go:137", after := #[{ on := 7, ground := Ground.data }, { on := 9, ground := Ground.data }], guard := none }) (v := ?_) rfl (by kernel_rfl) (by kernel_rfl) (by kernel_rfl) (fun _ _ _ h => h) (Or.inl ⟨by rfl, ?_⟩) (by assumption) ?_
                rotate_left 1
                · intro w hSw; (try dsimp only at hSw); go_simp; try (with_reducible rfl)
                try simp only [Act.put, List.setIfInBounds_toArray, List.set_cons_zero, List.set_cons_succ]
                refine wpAnyH_ready (rs := [0, 11]) (by kernel_rfl) (by simp) ?_
                refine AllReadyH.cons (o := { dst := some 133, op := Op.buildSlice 83 0 #[], type := 83, pos := "ref.go:137", after := #[], guard := none }) rfl (fun K hK => ?_) (AllReadyH.cons (o := { dst := some 144, op := Op.buildSlice 83 1 #[(0, Operand.tmp 143)], type := 83, pos := "ref.go:137", after := #[{ on := 10, ground := Ground.data }], guard := none }) rfl (fun K hK => ?_) AllReadyH.nil)
                · skip
                  go_simp
                  refine hK.out _ _ (HS.out _ (Q2.out.after (Below.drew (below_alloc (Below.refl w1.heap.size w1) _)))) (fun hHeld => ?_)
                  clear hK K
                  try simp only [Act.put, List.setIfInBounds_toArray, List.set_cons_zero, List.set_cons_succ]
                  refine wpAnyH_ready (rs := [5, 11]) (by kernel_rfl) (by simp) ?_
                  refine AllReadyH.cons (o := { dst := some 138, op := Op.call { callee := Callee.builtin Builtin.append, args := #[Operand.tmp 133, Operand.tmp 137], argTypes := #[83, 83] }, type := 83, pos := "ref.go:137", after := #[{ on := 0, ground := Ground.data }, { on := 4, ground := Ground.data }], guard := none }) rfl (fun K hK => ?_) (AllReadyH.cons (o := { dst := some 144, op := Op.buildSlice 83 1 #[(0, Operand.tmp 143)], type := 83, pos := "ref.go:137", after := #[{ on := 10, ground := Ground.data }], guard := none }) rfl (fun K hK => ?_) AllReadyH.nil)
                  · skip
                    have OW : (w1.alloc (.cells #[] 88)).drew.ownsRow w1.heap.size 88 2 (.slice (some ⟨w1.heap.size, 0, none⟩) 0 0) 0 [] := own_same (w := (w1.alloc (.cells #[] 88))) (World.ownsRow_made (base := w1.heap.size) (e := 88) (size := 2) w1 #[] 0 (Nat.le_refl _) (Nat.zero_le _) rfl) (fun _ _ => rfl)
                    have BX5 : Below w1.heap.size w1 (w1.alloc (.cells #[] 88)).drew := (Below.drew (below_alloc (Below.refl w1.heap.size w1) _))
                    obtain ⟨v2, w5, hr2, ho2, hg2, g5, c5, rfl⟩ := append_keys (w1.alloc (.cells #[] 88)).drew w1.heap.size _ 0 [] (some ⟨gk, 0, none⟩) lk ck (KY.take lk) 83 OW ((KS0.out _ (Q2.out.after BX5)).take lk) (by rw [List.length_take, HLK.out]; omega) (by omega) (by omega) BX5.size ⟨_, _, rfl⟩
                    simp only [Nat.zero_add, List.nil_append] at hr2 ho2
                    have BW5 : Below w1.heap.size w1 w5 := below_own BX5 OW BX5.size hg2
                    clear OW BX5 hg2
                    refine step_append_run rfl (.tmp 133) (.tmp 137) _ _ rfl _ _ rfl rfl _ _ hr2 ?_
                    refine hK.out _ _ (HS.out _ (Q2.out.after BW5)) (fun hHeld => ?_)
                    clear hK K
                    try simp only [Act.put, List.setIfInBounds_toArray, List.set_cons_zero, List.set_cons_succ]
                    refine wpAnyH_ready (rs := [11]) (by kernel_rfl) (by simp) ?_
                    refine AllReadyH.cons (o := { dst := some 144, op := Op.buildSlice 83 1 #[(0, Operand.tmp 143)], type := 83, pos := "ref.go:137", after := #[{ on := 10, ground := Ground.data }], guard := none }) rfl (fun K hK => ?_) AllReadyH.nil
                    · skip
                      go_simp
                      refine hK.out _ _ (HS.out _ (Q2.out.after (below_alloc BW5 _))) (fun hHeld => ?_)
                      clear hK K
                      try simp only [Act.put, List.setIfInBounds_toArray, List.set_cons_zero, List.set_cons_succ]
                      refine wpAnyH_ready (rs := [12]) (by kernel_rfl) (by simp) ?_
                      refine AllReadyH.cons (o := { dst := some 145, op := Op.call { callee := Callee.builtin Builtin.append, args := #[Operand.tmp 138, Operand.tmp 144], argTypes := #[83, 83] }, type := 83, pos := "ref.go:137", after := #[{ on := 5, ground := Ground.data }, { on := 11, ground := Ground.data }, { on := 5, ground := Ground.chain }], guard := none }) rfl (fun K hK => ?_) AllReadyH.nil
                      · skip
                        have KB : Blk w5.heap.size #[.string (strOfNums key), .int .i64 (md : Int)] 88 (w5.alloc (.cells #[.string (strOfNums key), .int .i64 (md : Int)] 88)) := Blk.new w5 _ _ rfl
                        have OW5 := ho2.alloc (.cells #[.string (strOfNums key), .int .i64 (md : Int)] 88)
                        have BX6 : Below w1.heap.size w1 (w5.alloc (.cells #[.string (strOfNums key), .int .i64 (md : Int)] 88)) := below_alloc' BW5 _
                        obtain ⟨v3, w6, hr3, ho3, hg3, g6, c6, rfl⟩ := append_keys (w5.alloc (.cells #[.string (strOfNums key), .int .i64 (md : Int)] 88)) w1.heap.size _ lk (kC (KY.take lk)) (some ⟨w5.heap.size, 0, none⟩) 1 1 [⟨key, md⟩] 83 OW5 (keyS_blk KB) rfl (by omega) (by omega) BX6.size ⟨_, _, rfl⟩
                        have BW6 : Below w1.heap.size w1 w6 := below_own BX6 OW5 BX6.size hg3
                        clear OW5 BX6 hg3 KB
                        refine step_append_run rfl (.tmp 138) (.tmp 144) _ _ rfl _ _ rfl rfl _ _ hr3 ?_
                        refine hK.out _ _ (HS.out _ (Q2.out.after BW6)) (fun hHeld => ?_)
                        clear hK K
                        try simp only [Act.put, List.setIfInBounds_toArray, List.set_cons_zero, List.set_cons_succ]
                        refine wpAnyH_take (i := 13) (oi := { dst := some 17, op := Op.assign (Operand.tmp 145), type := 83, pos := "ref.go:137", after := #[{ on := 12, ground := Ground.data }, { on := 12, ground := Ground.chain }, { on := 0, ground := Ground.phase }, { on := 1, ground := Ground.phase }, { on := 2, ground := Ground.phase }, { on := 3, ground := Ground.phase }, { on := 4, ground := Ground.phase }, { on := 5, ground := Ground.phase }, { on := 6, ground := Ground.phase }, { on := 7, ground := Ground.phase }, { on := 8, ground := Ground.phase }, { on := 9, ground := Ground.phase }, { on := 10, ground := Ground.phase }, { on := 11, ground := Ground.phase }, { on := 12, ground := Ground.phase }], guard := none }) (v := ?_) rfl (by kernel_rfl) (by kernel_rfl) (by kernel_rfl) (fun _ _ _ h => h) (Or.inl ⟨by rfl, ?_⟩) (by assumption) ?_
                        rotate_left 1
                        · intro w hSw; (try dsimp only at hSw); go_simp; try (with_reducible rfl)
                        try simp only [Act.put, List.setIfInBounds_toArray, List.set_cons_zero, List.set_cons_succ]
                        refine wpAnyH_done (by kernel_rfl) ?_ _
                        have V6 := Lib.hid BW6
                        have R6 := Lib.hid ho3
                        clear hHeld HS hr2 ho2 hr3 ho3 BW5 BW6
                        go_upto_region 28 with fail
                        have S1 := (SEE.out _ (Q2.out.after V6.out.drew).maps).2.1
                        refine wp_region_held_drew (S := fun w' => w'.cell? ⟨gt, 1, none⟩ = some (.slice (some ⟨gl, 0, none⟩) L.length cl)) (by kernel_rfl) S1 (fun hHeld => ?_)
                        clear S1
                        refine wpAnyH_take (i := 0) (oi := { dst := some 146, op := Op.move (Operand.tmp 0), type := 35, pos := "ref.go:138", after := #[], guard := none }) (v := ?_) rfl (by kernel_rfl) (by kernel_rfl) (by kernel_rfl) (fun _ _ _ h => h) (Or.inl ⟨by rfl, ?_⟩) (by assumption) ?_
                        rotate_left 1
                        · intro w hSw; (try dsimp only at hSw); go_simp; try (with_reducible rfl)
                        try simp only [Act.put, List.setIfInBounds_toArray, List.set_cons_zero, List.set_cons_succ]
                        refine wpAnyH_take (i := 1) (oi := { dst := some 147, op := Op.nilCheck (Operand.tmp 146), type := 0, pos := "ref.go:138", after := #[{ on := 0, ground := Ground.data }], guard := none }) (v := ?_) rfl (by kernel_rfl) (by kernel_rfl) (by kernel_rfl) (fun _ _ _ h => h) (Or.inl ⟨by rfl, ?_⟩) (by assumption) ?_
                        rotate_left 1
                        · intro w hSw; (try dsimp only at hSw); go_simp; try (with_reducible rfl)
                        try simp only [Act.put, List.setIfInBounds_toArray, List.set_cons_zero, List.set_cons_succ]
                        refine wpAnyH_take (i := 2) (oi := { dst := some 148, op := Op.fieldAddr 82 (Operand.tmp 147) 1, type := 0, pos := "ref.go:138", after := #[{ on := 1, ground := Ground.data }], guard := none }) (v := ?_) rfl (by kernel_rfl) (by kernel_rfl) (by kernel_rfl) (fun _ _ _ h => h) (Or.inl ⟨by rfl, ?_⟩) (by assumption) ?_
                        rotate_left 1
                        · intro w hSw; (try dsimp only at hSw); go_simp; try (with_reducible rfl)
                        try simp only [Act.put, List.setIfInBounds_toArray, List.set_cons_zero, List.set_cons_succ]
                        refine wpAnyH_take (i := 3) (oi := { dst := some 149, op := Op.load 80 (Operand.tmp 148), type := 80, pos := "ref.go:138", after := #[{ on := 2, ground := Ground.data }], guard := none }) (v := ?_) rfl (by kernel_rfl) (by kernel_rfl) (by kernel_rfl) (fun _ _ _ h => h) (Or.inl ⟨by rfl, ?_⟩) (by assumption) ?_
                        rotate_left 1
                        · intro w hSw; (try dsimp only at hSw); go_simp; try (with_reducible rfl)
                        try simp only [Act.put, List.setIfInBounds_toArray, List.set_cons_zero, List.set_cons_succ]
                        refine wpAnyH_take (i := 4) (oi := { dst := some 150, op := Op.move (Operand.tmp 1), type := 3, pos := "ref.go:138", after := #[], guard := none }) (v := ?_) rfl (by kernel_rfl) (by kernel_rfl) (by kernel_rfl) (fun _ _ _ h => h) (Or.inl ⟨by rfl, ?_⟩) (by assumption) ?_
                        rotate_left 1
                        · intro w hSw; (try dsimp only at hSw); go_simp; try (with_reducible rfl)
                        try simp only [Act.put, List.setIfInBounds_toArray, List.set_cons_zero, List.set_cons_succ]
                        refine wpAnyH_take (i := 5) (oi := { dst := some 151, op := Op.move (Operand.tmp 17), type := 83, pos := "ref.go:138", after := #[], guard := none }) (v := ?_) rfl (by kernel_rfl) (by kernel_rfl) (by kernel_rfl) (fun _ _ _ h => h) (Or.inl ⟨by rfl, ?_⟩) (by assumption) ?_
                        rotate_left 1
                        · intro w hSw; (try dsimp only at hSw); go_simp; try (with_reducible rfl)
                        try simp only [Act.put, List.setIfInBounds_toArray, List.set_cons_zero, List.set_cons_succ]
                        refine wpAnyH_take (i := 6) (oi := { dst := some 152, op := Op.move (Operand.tmp 16), type := 83, pos := "ref.go:138", after := #[], guard := none }) (v := ?_) rfl (by kernel_rfl) (by kernel_rfl) (by kernel_rfl) (fun _ _ _ h => h) (Or.inl ⟨by rfl, ?_⟩) (by assumption) ?_
                        rotate_left 1
                        · intro w hSw; (try dsimp only at hSw); go_simp; try (with_reducible rfl)
                        try simp only [Act.put, List.setIfInBounds_toArray, List.set_cons_zero, List.set_cons_succ]
                        refine wpAnyH_ready (rs := [7]) (by kernel_rfl) (by simp) ?_
                        refine AllReadyH.cons (o := { dst := some 153, op := Op.call { callee := Callee.builtin Builtin.append, args := #[Operand.tmp 151, Operand.tmp 152], argTypes := #[83, 83] }, type := 83, pos := "ref.go:138", after := #[{ on := 5, ground := Ground.data }, { on := 6, ground := Ground.data }], guard := none }) rfl (fun K hK => ?_) AllReadyH.nil
                        · skip
                          have BX7 : Below w1.heap.size w1 w6.drew := V6.out.drew
                          have OW7 := own_same (w' := w6.drew) R6.out (fun _ _ => rfl)
                          have KR : KeyS w6.drew (some ⟨g1, 0, none⟩) (KY.drop lk) := (own_keyS (by rw [List.length_drop, HLK.out]; omega) RO.out).after BX7
                          obtain ⟨v4, w7, hr4, ho4, hg4, g7, c7, rfl⟩ := append_keys w6.drew w1.heap.size _ (lk + 1) _ (some ⟨g1, 0, none⟩) 0 c1 (KY.drop lk) 83 OW7 KR (by rw [List.length_drop, HLK.out]; omega) (by omega) (by omega) BX7.size ⟨_, _, rfl⟩
                          rw [show lk + 1 + 0 = lk + 1 by omega] at hr4 ho4
                          have BW7 : Below w1.heap.size w1 w7 := below_own BX7 OW7 BX7.size hg4
                          have DN := Lib.hid (DONE.out w7 _ BW7 (by rw [← kC_app, ← kC_app, List.append_assoc] at ho4; rw [TI.out]; exact ho4))
                          have SE := SEE.out w7 (Q2.out.after BW7).maps
                          obtain ⟨-, z1, -, -, -, -, z4, z5, zf4, zf5, -⟩ := SE
                          have T1 : (w7.setCell ⟨gl, k * 6 + 4, none⟩ (.slice (some ⟨g7, 0, none⟩) (lk + 1) c7)).cell? ⟨gt, 1, none⟩ = some (.slice (some ⟨gl, 0, none⟩) L.length cl) := (World.cell?_of_block (Below.heap_setCell _ _ _ _ HGT.out)).trans z1
                          have T5 : (w7.setCell ⟨gl, k * 6 + 4, none⟩ (.slice (some ⟨g7, 0, none⟩) (lk + 1) c7)).cell? ⟨gl, k * 6 + 5, none⟩ = some (.int .i64 (md : Int)) := by rw [← z5]; exact cell_setCell_off w7 gl (k * 6 + 4) (k * 6 + 5) _ (by omega)
                          have T6 : (w7.setCell ⟨gl, k * 6 + 4, none⟩ (.slice (some ⟨g7, 0, none⟩) (lk + 1) c7)).frozen? ⟨gl, k * 6 + 5, none⟩ = false := by rw [World.frozen?_setCell]; exact zf5
                          clear OW7 KR hg4 BX7 ho4 z5 zf5
                          refine step_append_run rfl (.tmp 151) (.tmp 152) _ _ rfl _ _ rfl rfl _ _ hr4 ?_
                          refine hK.out _ _ z1 (fun hHeld => ?_)
                          clear hK K
                          try simp only [Act.put, List.setIfInBounds_toArray, List.set_cons_zero, List.set_cons_succ]
                          refine wpAnyH_take (i := 8) (oi := { dst := some 154, op := Op.indexAddr 80 (Operand.tmp 149) (Operand.tmp 150), type := 0, pos := "ref.go:138", after := #[{ on := 3, ground := Ground.data }, { on := 4, ground := Ground.data }, { on := 0, ground := Ground.phase }, { on := 1, ground := Ground.phase }, { on := 2, ground := Ground.phase }, { on := 3, ground := Ground.phase }, { on := 4, ground := Ground.phase }, { on := 5, ground := Ground.phase }, { on := 6, ground := Ground.phase }, { on := 7, ground := Ground.phase }], guard := none }) (v := ?_) rfl (by kernel_rfl) (by kernel_rfl) (by kernel_rfl) (fun _ _ _ h => h) (Or.inl ⟨by rfl, ?_⟩) (by assumption) ?_
                          rotate_left 1
                          · intro w hSw; (try dsimp only at hSw); go_simp; try (with_reducible rfl)
                          try simp only [Act.put, List.setIfInBounds_toArray, List.set_cons_zero, List.set_cons_succ]
                          refine wpAnyH_take (i := 9) (oi := { dst := some 155, op := Op.fieldAddr 85 (Operand.tmp 154) 1, type := 0, pos := "ref.go:138", after := #[{ on := 8, ground := Ground.data }, { on := 0, ground := Ground.phase }, { on := 1, ground := Ground.phase }, { on := 2, ground := Ground.phase }, { on := 3, ground := Ground.phase }, { on := 4, ground := Ground.phase }, { on := 5, ground := Ground.phase }, { on := 6, ground := Ground.phase }, { on := 7, ground := Ground.phase }], guard := none }) (v := ?_) rfl (by kernel_rfl) (by kernel_rfl) (by kernel_rfl) (fun _ _ _ h => h) (Or.inl ⟨by rfl, ?_⟩) (by assumption) ?_
                          rotate_left 1
                          · intro w hSw; (try dsimp only at hSw); go_simp; try (with_reducible rfl)
                          try simp only [Act.put, List.setIfInBounds_toArray, List.set_cons_zero, List.set_cons_succ]
                          refine wpAnyH_ready (rs := [10]) (by kernel_rfl) (by simp) ?_
                          refine AllReadyH.cons (o := { dst := none, op := Op.store 83 (Operand.tmp 155) (Operand.tmp 153), type := 0, pos := "ref.go:138", after := #[{ on := 9, ground := Ground.data }, { on := 7, ground := Ground.data }, { on := 7, ground := Ground.chain }, { on := 0, ground := Ground.phase }, { on := 1, ground := Ground.phase }, { on := 2, ground := Ground.phase }, { on := 3, ground := Ground.phase }, { on := 4, ground := Ground.phase }, { on := 5, ground := Ground.phase }, { on := 6, ground := Ground.phase }, { on := 7, ground := Ground.phase }], guard := none }) rfl (fun K hK => ?_) AllReadyH.nil
                          · skip
                            go_simp
                            refine hK.out _ _ T1 (fun hHeld => ?_)
                            clear hK K
                            try simp only [Act.put, List.setIfInBounds_toArray, List.set_cons_zero, List.set_cons_succ]
                            refine wpAnyH_done (by kernel_rfl) ?_ _
                            clear hHeld z1 z4 zf4 hr4
                            go_wp2_with fail
                            go_ret2
                            exact DN.out
                  · skip
                    go_simp
                    refine hK.out _ _ (HS.out _ (Q2.out.after (Below.drew (below_alloc (below_alloc (Below.refl w1.heap.size w1) _) _)))) (fun hHeld => ?_)
                    clear hK K
                    try simp only [Act.put, List.setIfInBounds_toArray, List.set_cons_zero, List.set_cons_succ]
                    refine wpAnyH_ready (rs := [5]) (by kernel_rfl) (by simp) ?_
                    refine AllReadyH.cons (o := { dst := some 138, op := Op.call { callee := Callee.builtin Builtin.append, args := #[Operand.tmp 133, Operand.tmp 137], argTypes := #[83, 83] }, type := 83, pos := "ref.go:137", after := #[{ on := 0, ground := Ground.data }, { on := 4, ground := Ground.data }], guard := none }) rfl (fun K hK => ?_) AllReadyH.nil
                    · skip
                      have OW : ((w1.alloc (.cells #[] 88)).alloc (.cells #[.string (strOfNums key), .int .i64 (md : Int)] 88)).drew.ownsRow w1.heap.size 88 2 (.slice (some ⟨w1.heap.size, 0, none⟩) 0 0) 0 [] := own_same (w := ((w1.alloc (.cells #[] 88)).alloc (.cells #[.string (strOfNums key), .int .i64 (md : Int)] 88))) ((World.ownsRow_made (base := w1.heap.size) (e := 88) (size := 2) w1 #[] 0 (Nat.le_refl _) (Nat.zero_le _) rfl).alloc (.cells #[.string (strOfNums key), .int .i64 (md : Int)] 88)) (fun _ _ => rfl)
                      have BX5 : Below w1.heap.size w1 ((w1.alloc (.cells #[] 88)).alloc (.cells #[.string (strOfNums key), .int .i64 (md : Int)] 88)).drew := (Below.drew (below_alloc (below_alloc (Below.refl w1.heap.size w1) _) _))
                      obtain ⟨v2, w5, hr2, ho2, hg2, g5, c5, rfl⟩ := append_keys ((w1.alloc (.cells #[] 88)).alloc (.cells #[.string (strOfNums key), .int .i64 (md : Int)] 88)).drew w1.heap.size _ 0 [] (some ⟨gk, 0, none⟩) lk ck (KY.take lk) 83 OW ((KS0.out _ (Q2.out.after BX5)).take lk) (by rw [List.length_take, HLK.out]; omega) (by omega) (by omega) BX5.size ⟨_, _, rfl⟩
                      simp only [Nat.zero_add, List.nil_append] at hr2 ho2
                      have BW5 : Below w1.heap.size w1 w5 := below_own BX5 OW BX5.size hg2
                      have KB0 : Blk (w1.heap.size + 1) #[.string (strOfNums key), .int .i64 (md : Int)] 88 ((w1.alloc (.cells #[] 88)).alloc (.cells #[.string (strOfNums key), .int .i64 (md : Int)] 88)).drew := (show Blk (w1.heap.size + 1) #[.string (strOfNums key), .int .i64 (md : Int)] 88 ((w1.alloc (.cells #[] 88)).alloc (.cells #[.string (strOfNums key), .int .i64 (md : Int)] 88)) from Blk.new (w1.alloc (.cells #[] 88)) _ _ (by simp))
                      have KB : Blk (w1.heap.size + 1) #[.string (strOfNums key), .int .i64 (md : Int)] 88 w5 := Blk.same KB0 (hg2.block _ KB0.lt (by simp [Value.ownBlock]))
                      clear OW BX5 hg2
                      refine step_append_run rfl (.tmp 133) (.tmp 137) _ _ rfl _ _ rfl rfl _ _ hr2 ?_
                      refine hK.out _ _ (HS.out _ (Q2.out.after BW5)) (fun hHeld => ?_)
                      clear hK K
                      try simp only [Act.put, List.setIfInBounds_toArray, List.set_cons_zero, List.set_cons_succ]
                      refine wpAnyH_ready (rs := [12]) (by kernel_rfl) (by simp) ?_
                      refine AllReadyH.cons (o := { dst := some 145, op := Op.call { callee := Callee.builtin Builtin.append, args := #[Operand.tmp 138, Operand.tmp 144], argTypes := #[83, 83] }, type := 83, pos := "ref.go:137", after := #[{ on := 5, ground := Ground.data }, { on := 11, ground := Ground.data }, { on := 5, ground := Ground.chain }], guard := none }) rfl (fun K hK => ?_) AllReadyH.nil
                      · skip
                        have OW5 := ho2
                        have BX6 := BW5
                        obtain ⟨v3, w6, hr3, ho3, hg3, g6, c6, rfl⟩ := append_keys w5 w1.heap.size _ lk (kC (KY.take lk)) (some ⟨w1.heap.size + 1, 0, none⟩) 1 1 [⟨key, md⟩] 83 OW5 (keyS_blk KB) rfl (by omega) (by omega) BX6.size ⟨_, _, rfl⟩
                        have BW6 : Below w1.heap.size w1 w6 := below_own BX6 OW5 BX6.size hg3
                        clear OW5 BX6 hg3 KB
                        refine step_append_run rfl (.tmp 138) (.tmp 144) _ _ rfl _ _ rfl rfl _ _ hr3 ?_
                        refine hK.out _ _ (HS.out _ (Q2.out.after BW6)) (fun hHeld => ?_)
                        clear hK K
                        try simp only [Act.put, List.setIfInBounds_toArray, List.set_cons_zero, List.set_cons_succ]
                        refine wpAnyH_take (i := 13) (oi := { dst := some 17, op := Op.assign (Operand.tmp 145), type := 83, pos := "ref.go:137", after := #[{ on := 12, ground := Ground.data }, { on := 12, ground := Ground.chain }, { on := 0, ground := Ground.phase }, { on := 1, ground := Ground.phase }, { on := 2, ground := Ground.phase }, { on := 3, ground := Ground.phase }, { on := 4, ground := Ground.phase }, { on := 5, ground := Ground.phase }, { on := 6, ground := Ground.phase }, { on := 7, ground := Ground.phase }, { on := 8, ground := Ground.phase }, { on := 9, ground := Ground.phase }, { on := 10, ground := Ground.phase }, { on := 11, ground := Ground.phase }, { on := 12, ground := Ground.phase }], guard := none }) (v := ?_) rfl (by kernel_rfl) (by kernel_rfl) (by kernel_rfl) (fun _ _ _ h => h) (Or.inl ⟨by rfl, ?_⟩) (by assumption) ?_
                        rotate_left 1
                        · intro w hSw; (try dsimp only at hSw); go_simp; try (with_reducible rfl)
                        try simp only [Act.put, List.setIfInBounds_toArray, List.set_cons_zero, List.set_cons_succ]
                        refine wpAnyH_done (by kernel_rfl) ?_ _
                        have V6 := Lib.hid BW6
                        have R6 := Lib.hid ho3
                        clear hHeld HS hr2 ho2 hr3 ho3 BW5 BW6
                        go_upto_region 28 with fail
                        have S1 := (SEE.out _ (Q2.out.after V6.out.drew).maps).2.1
                        refine wp_region_held_drew (S := fun w' => w'.cell? ⟨gt, 1, none⟩ = some (.slice (some ⟨gl, 0, none⟩) L.length cl)) (by kernel_rfl) S1 (fun hHeld => ?_)
                        clear S1
                        refine wpAnyH_take (i := 0) (oi := { dst := some 146, op := Op.move (Operand.tmp 0), type := 35, pos := "ref.go:138", after := #[], guard := none }) (v := ?_) rfl (by kernel_rfl) (by kernel_rfl) (by kernel_rfl) (fun _ _ _ h => h) (Or.inl ⟨by rfl, ?_⟩) (by assumption) ?_
                        rotate_left 1
                        · intro w hSw; (try dsimp only at hSw); go_simp; try (with_reducible rfl)
                        try simp only [Act.put, List.setIfInBounds_toArray, List.set_cons_zero, List.set_cons_succ]
                        refine wpAnyH_take (i := 1) (oi := { dst := some 147, op := Op.nilCheck (Operand.tmp 146), type := 0, pos := "ref.go:138", after := #[{ on := 0, ground := Ground.data }], guard := none }) (v := ?_) rfl (by kernel_rfl) (by kernel_rfl) (by kernel_rfl) (fun _ _ _ h => h) (Or.inl ⟨by rfl, ?_⟩) (by assumption) ?_
                        rotate_left 1
                        · intro w hSw; (try dsimp only at hSw); go_simp; try (with_reducible rfl)
                        try simp only [Act.put, List.setIfInBounds_toArray, List.set_cons_zero, List.set_cons_succ]
                        refine wpAnyH_take (i := 2) (oi := { dst := some 148, op := Op.fieldAddr 82 (Operand.tmp 147) 1, type := 0, pos := "ref.go:138", after := #[{ on := 1, ground := Ground.data }], guard := none }) (v := ?_) rfl (by kernel_rfl) (by kernel_rfl) (by kernel_rfl) (fun _ _ _ h => h) (Or.inl ⟨by rfl, ?_⟩) (by assumption) ?_
                        rotate_left 1
                        · intro w hSw; (try dsimp only at hSw); go_simp; try (with_reducible rfl)
                        try simp only [Act.put, List.setIfInBounds_toArray, List.set_cons_zero, List.set_cons_succ]
                        refine wpAnyH_take (i := 3) (oi := { dst := some 149, op := Op.load 80 (Operand.tmp 148), type := 80, pos := "ref.go:138", after := #[{ on := 2, ground := Ground.data }], guard := none }) (v := ?_) rfl (by kernel_rfl) (by kernel_rfl) (by kernel_rfl) (fun _ _ _ h => h) (Or.inl ⟨by rfl, ?_⟩) (by assumption) ?_
                        rotate_left 1
                        · intro w hSw; (try dsimp only at hSw); go_simp; try (with_reducible rfl)
                        try simp only [Act.put, List.setIfInBounds_toArray, List.set_cons_zero, List.set_cons_succ]
                        refine wpAnyH_take (i := 4) (oi := { dst := some 150, op := Op.move (Operand.tmp 1), type := 3, pos := "ref.go:138", after := #[], guard := none }) (v := ?_) rfl (by kernel_rfl) (by kernel_rfl) (by kernel_rfl) (fun _ _ _ h => h) (Or.inl ⟨by rfl, ?_⟩) (by assumption) ?_
                        rotate_left 1
                        · intro w hSw; (try dsimp only at hSw); go_simp; try (with_reducible rfl)
                        try simp only [Act.put, List.setIfInBounds_toArray, List.set_cons_zero, List.set_cons_succ]
                        refine wpAnyH_take (i := 5) (oi := { dst := some 151, op := Op.move (Operand.tmp 17), type := 83, pos := "ref.go:138", after := #[], guard := none }) (v := ?_) rfl (by kernel_rfl) (by kernel_rfl) (by kernel_rfl) (fun _ _ _ h => h) (Or.inl ⟨by rfl, ?_⟩) (by assumption) ?_
                        rotate_left 1
                        · intro w hSw; (try dsimp only at hSw); go_simp; try (with_reducible rfl)
                        try simp only [Act.put, List.setIfInBounds_toArray, List.set_cons_zero, List.set_cons_succ]
                        refine wpAnyH_take (i := 6) (oi := { dst := some 152, op := Op.move (Operand.tmp 16), type := 83, pos := "ref.go:138", after := #[], guard := none }) (v := ?_) rfl (by kernel_rfl) (by kernel_rfl) (by kernel_rfl) (fun _ _ _ h => h) (Or.inl ⟨by rfl, ?_⟩) (by assumption) ?_
                        rotate_left 1
                        · intro w hSw; (try dsimp only at hSw); go_simp; try (with_reducible rfl)
                        try simp only [Act.put, List.setIfInBounds_toArray, List.set_cons_zero, List.set_cons_succ]
                        refine wpAnyH_ready (rs := [7]) (by kernel_rfl) (by simp) ?_
                        refine AllReadyH.cons (o := { dst := some 153, op := Op.call { callee := Callee.builtin Builtin.append, args := #[Operand.tmp 151, Operand.tmp 152], argTypes := #[83, 83] }, type := 83, pos := "ref.go:138", after := #[{ on := 5, ground := Ground.data }, { on := 6, ground := Ground.data }], guard := none }) rfl (fun K hK => ?_) AllReadyH.nil
                        · skip
                          have BX7 : Below w1.heap.size w1 w6.drew := V6.out.drew
                          have OW7 := own_same (w' := w6.drew) R6.out (fun _ _ => rfl)
                          have KR : KeyS w6.drew (some ⟨g1, 0, none⟩) (KY.drop lk) := (own_keyS (by rw [List.length_drop, HLK.out]; omega) RO.out).after BX7
                          obtain ⟨v4, w7, hr4, ho4, hg4, g7, c7, rfl⟩ := append_keys w6.drew w1.heap.size _ (lk + 1) _ (some ⟨g1, 0, none⟩) 0 c1 (KY.drop lk) 83 OW7 KR (by rw [List.length_drop, HLK.out]; omega) (by omega) (by omega) BX7.size ⟨_, _, rfl⟩
                          rw [show lk + 1 + 0 = lk + 1 by omega] at hr4 ho4
                          have BW7 : Below w1.heap.size w1 w7 := below_own BX7 OW7 BX7.size hg4
                          have DN := Lib.hid (DONE.out w7 _ BW7 (by rw [← kC_app, ← kC_app, List.append_assoc] at ho4; rw [TI.out]; exact ho4))
                          have SE := SEE.out w7 (Q2.out.after BW7).maps
                          obtain ⟨-, z1, -, -, -, -, z4, z5, zf4, zf5, -⟩ := SE
                          have T1 : (w7.setCell ⟨gl, k * 6 + 4, none⟩ (.slice (some ⟨g7, 0, none⟩) (lk + 1) c7)).cell? ⟨gt, 1, none⟩ = some (.slice (some ⟨gl, 0, none⟩) L.length cl) := (World.cell?_of_block (Below.heap_setCell _ _ _ _ HGT.out)).trans z1
                          have T5 : (w7.setCell ⟨gl, k * 6 + 4, none⟩ (.slice (some ⟨g7, 0, none⟩) (lk + 1) c7)).cell? ⟨gl, k * 6 + 5, none⟩ = some (.int .i64 (md : Int)) := by rw [← z5]; exact cell_setCell_off w7 gl (k * 6 + 4) (k * 6 + 5) _ (by omega)
                          have T6 : (w7.setCell ⟨gl, k * 6 + 4, none⟩ (.slice (some ⟨g7, 0, none⟩) (lk + 1) c7)).frozen? ⟨gl, k * 6 + 5, none⟩ = false := by rw [World.frozen?_setCell]; exact zf5
                          clear OW7 KR hg4 BX7 ho4 z5 zf5
                          refine step_append_run rfl (.tmp 151) (.tmp 152) _ _ rfl _ _ rfl rfl _ _ hr4 ?_
                          refine hK.out _ _ z1 (fun hHeld => ?_)
                          clear hK K
                          try simp only [Act.put, List.setIfInBounds_toArray, List.set_cons_zero, List.set_cons_succ]
                          refine wpAnyH_take (i := 8) (oi := { dst := some 154, op := Op.indexAddr 80 (Operand.tmp 149) (Operand.tmp 150), type := 0, pos := "ref.go:138", after := #[{ on := 3, ground := Ground.data }, { on := 4, ground := Ground.data }, { on := 0, ground := Ground.phase }, { on := 1, ground := Ground.phase }, { on := 2, ground := Ground.phase }, { on := 3, ground := Ground.phase }, { on := 4, ground := Ground.phase }, { on := 5, ground := Ground.phase }, { on := 6, ground := Ground.phase }, { on := 7, ground := Ground.phase }], guard := none }) (v := ?_) rfl (by kernel_rfl) (by kernel_rfl) (by kernel_rfl) (fun _ _ _ h => h) (Or.inl ⟨by rfl, ?_⟩) (by assumption) ?_
                          rotate_left 1
                          · intro w hSw; (try dsimp only at hSw); go_simp; try (with_reducible rfl)
                          try simp only [Act.put, List.setIfInBounds_toArray, List.set_cons_zero, List.set_cons_succ]
                          refine wpAnyH_take (i := 9) (oi := { dst := some 155, op := Op.fieldAddr 85 (Operand.tmp 154) 1, type := 0, pos := "ref.go:138", after := #[{ on := 8, ground := Ground.data }, { on := 0, ground := Ground.phase }, { on := 1, ground := Ground.phase }, { on := 2, ground := Ground.phase }, { on := 3, ground := Ground.phase }, { on := 4, ground := Ground.phase }, { on := 5, ground := Ground.phase }, { on := 6, ground := Ground.phase }, { on := 7, ground := Ground.phase }], guard := none }) (v := ?_) rfl (by kernel_rfl) (by kernel_rfl) (by kernel_rfl) (fun _ _ _ h => h) (Or.inl ⟨by rfl, ?_⟩) (by assumption) ?_
                          rotate_left 1
                          · intro w hSw; (try dsimp only at hSw); go_simp; try (with_reducible rfl)
                          try simp only [Act.put, List.setIfInBounds_toArray, List.set_cons_zero, List.set_cons_succ]
                          refine wpAnyH_ready (rs := [10]) (by kernel_rfl) (by simp) ?_
                          refine AllReadyH.cons (o := { dst := none, op := Op.store 83 (Operand.tmp 155) (Operand.tmp 153), type := 0, pos := "ref.go:138", after := #[{ on := 9, ground := Ground.data }, { on := 7, ground := Ground.data }, { on := 7, ground := Ground.chain }, { on := 0, ground := Ground.phase }, { on := 1, ground := Ground.phase }, { on := 2, ground := Ground.phase }, { on := 3, ground := Ground.phase }, { on := 4, ground := Ground.phase }, { on := 5, ground := Ground.phase }, { on := 6, ground := Ground.phase }, { on := 7, ground := Ground.phase }], guard := none }) rfl (fun K hK => ?_) AllReadyH.nil
                          · skip
                            go_simp
                            refine hK.out _ _ T1 (fun hHeld => ?_)
                            clear hK K
                            try simp only [Act.put, List.setIfInBounds_toArray, List.set_cons_zero, List.set_cons_succ]
                            refine wpAnyH_done (by kernel_rfl) ?_ _
                            clear hHeld z1 z4 zf4 hr4
                            go_wp2_with fail
                            go_ret2
                            exact DN.out
                · skip
                  go_simp
                  refine hK.out _ _ (HS.out _ (Q2.out.after (Below.drew (below_alloc (Below.refl w1.heap.size w1) _)))) (fun hHeld => ?_)
                  clear hK K
                  try simp only [Act.put, List.setIfInBounds_toArray, List.set_cons_zero, List.set_cons_succ]
                  refine wpAnyH_ready (rs := [0]) (by kernel_rfl) (by simp) ?_
                  refine AllReadyH.cons (o := { dst := some 133, op := Op.buildSlice 83 0 #[], type := 83, pos := "ref.go:137", after := #[], guard := none }) rfl (fun K hK => ?_) AllReadyH.nil
                  · skip
                    go_simp
                    refine hK.out _ _ (HS.out _ (Q2.out.after (Below.drew (below_alloc (below_alloc (Below.refl w1.heap.size w1) _) _)))) (fun hHeld => ?_)
                    clear hK K
                    try simp only [Act.put, List.setIfInBounds_toArray, List.set_cons_zero, List.set_cons_succ]
                    refine wpAnyH_ready (rs := [5]) (by kernel_rfl) (by simp) ?_
                    refine AllReadyH.cons (o := { dst := some 138, op := Op.call { callee := Callee.builtin Builtin.append, args := #[Operand.tmp 133, Operand.tmp 137], argTypes := #[83, 83] }, type := 83, pos := "ref.go:137", after := #[{ on := 0, ground := Ground.data }, { on := 4, ground := Ground.data }], guard := none }) rfl (fun K hK => ?_) AllReadyH.nil
                    · skip
                      have OW : ((w1.alloc (.cells #[.string (strOfNums key), .int .i64 (md : Int)] 88)).alloc (.cells #[] 88)).drew.ownsRow w1.heap.size 88 2 (.slice (some ⟨w1.heap.size + 1, 0, none⟩) 0 0) 0 [] := own_same (w := ((w1.alloc (.cells #[.string (strOfNums key), .int .i64 (md : Int)] 88)).alloc (.cells #[] 88))) (by have q := World.ownsRow_made (base := w1.heap.size) (e := 88) (size := 2) (w1.alloc (.cells #[.string (strOfNums key), .int .i64 (md : Int)] 88)) #[] 0 (by simp) (Nat.zero_le _) rfl; rw [show (w1.alloc (.cells #[.string (strOfNums key), .int .i64 (md : Int)] 88)).heap.size = w1.heap.size + 1 by simp] at q; exact q) (fun _ _ => rfl)
                      have BX5 : Below w1.heap.size w1 ((w1.alloc (.cells #[.string (strOfNums key), .int .i64 (md : Int)] 88)).alloc (.cells #[] 88)).drew := (Below.drew (below_alloc (below_alloc (Below.refl w1.heap.size w1) _) _))
                      obtain ⟨v2, w5, hr2, ho2, hg2, g5, c5, rfl⟩ := append_keys ((w1.alloc (.cells #[.string (strOfNums key), .int .i64 (md : Int)] 88)).alloc (.cells #[] 88)).drew w1.heap.size _ 0 [] (some ⟨gk, 0, none⟩) lk ck (KY.take lk) 83 OW ((KS0.out _ (Q2.out.after BX5)).take lk) (by rw [List.length_take, HLK.out]; omega) (by omega) (by omega) BX5.size ⟨_, _, rfl⟩
                      simp only [Nat.zero_add, List.nil_append] at hr2 ho2
                      have BW5 : Below w1.heap.size w1 w5 := below_own BX5 OW BX5.size hg2
                      have KB0 : Blk (w1.heap.size) #[.string (strOfNums key), .int .i64 (md : Int)] 88 ((w1.alloc (.cells #[.string (strOfNums key), .int .i64 (md : Int)] 88)).alloc (.cells #[] 88)).drew := (show Blk (w1.heap.size) #[.string (strOfNums key), .int .i64 (md : Int)] 88 ((w1.alloc (.cells #[.string (strOfNums key), .int .i64 (md : Int)] 88)).alloc (.cells #[] 88)) from Blk.after (Blk.new w1 _ _ rfl) (below_alloc (Below.refl _ _) _))
                      have KB : Blk (w1.heap.size) #[.string (strOfNums key), .int .i64 (md : Int)] 88 w5 := Blk.same KB0 (hg2.block _ KB0.lt (by simp [Value.ownBlock]))
                      clear OW BX5 hg2
                      refine step_append_run rfl (.tmp 133) (.tmp 137) _ _ rfl _ _ rfl rfl _ _ hr2 ?_
                      refine hK.out _ _ (HS.out _ (Q2.out.after BW5)) (fun hHeld => ?_)
                      clear hK K
                      try simp only [Act.put, List.setIfInBounds_toArray, List.set_cons_zero, List.set_cons_succ]
                      refine wpAnyH_ready (rs := [12]) (by kernel_rfl) (by simp) ?_
                      refine AllReadyH.cons (o := { dst := some 145, op := Op.call { callee := Callee.builtin Builtin.append, args := #[Operand.tmp 138, Operand.tmp 144], argTypes := #[83, 83] }, type := 83, pos := "ref.go:137", after := #[{ on := 5, ground := Ground.data }, { on := 11, ground := Ground.data }, { on := 5, ground := Ground.chain }], guard := none }) rfl (fun K hK => ?_) AllReadyH.nil
                      · skip
                        have OW5 := ho2
                        have BX6 := BW5
                        obtain ⟨v3, w6, hr3, ho3, hg3, g6, c6, rfl⟩ := append_keys w5 w1.heap.size _ lk (kC (KY.take lk)) (some ⟨w1.heap.size, 0, none⟩) 1 1 [⟨key, md⟩] 83 OW5 (keyS_blk KB) rfl (by omega) (by omega) BX6.size ⟨_, _, rfl⟩
                        have BW6 : Below w1.heap.size w1 w6 := below_own BX6 OW5 BX6.size hg3
                        clear OW5 BX6 hg3 KB
                        refine step_append_run rfl (.tmp 138) (.tmp 144) _ _ rfl _ _ rfl rfl _ _ hr3 ?_
                        refine hK.out _ _ (HS.out _ (Q2.out.after BW6)) (fun hHeld => ?_)
                        clear hK K
                        try simp only [Act.put, List.setIfInBounds_toArray, List.set_cons_zero, List.set_cons_succ]
                        refine wpAnyH_take (i := 13) (oi := { dst := some 17, op := Op.assign (Operand.tmp 145), type := 83, pos := "ref.go:137", after := #[{ on := 12, ground := Ground.data }, { on := 12, ground := Ground.chain }, { on := 0, ground := Ground.phase }, { on := 1, ground := Ground.phase }, { on := 2, ground := Ground.phase }, { on := 3, ground := Ground.phase }, { on := 4, ground := Ground.phase }, { on := 5, ground := Ground.phase }, { on := 6, ground := Ground.phase }, { on := 7, ground := Ground.phase }, { on := 8, ground := Ground.phase }, { on := 9, ground := Ground.phase }, { on := 10, ground := Ground.phase }, { on := 11, ground := Ground.phase }, { on := 12, ground := Ground.phase }], guard := none }) (v := ?_) rfl (by kernel_rfl) (by kernel_rfl) (by kernel_rfl) (fun _ _ _ h => h) (Or.inl ⟨by rfl, ?_⟩) (by assumption) ?_
                        rotate_left 1
                        · intro w hSw; (try dsimp only at hSw); go_simp; try (with_reducible rfl)
                        try simp only [Act.put, List.setIfInBounds_toArray, List.set_cons_zero, List.set_cons_succ]
                        refine wpAnyH_done (by kernel_rfl) ?_ _
                        have V6 := Lib.hid BW6
                        have R6 := Lib.hid ho3
                        clear hHeld HS hr2 ho2 hr3 ho3 BW5 BW6
                        go_upto_region 28 with fail
                        have S1 := (SEE.out _ (Q2.out.after V6.out.drew).maps).2.1
                        refine wp_region_held_drew (S := fun w' => w'.cell? ⟨gt, 1, none⟩ = some (.slice (some ⟨gl, 0, none⟩) L.length cl)) (by kernel_rfl) S1 (fun hHeld => ?_)
                        clear S1
                        refine wpAnyH_take (i := 0) (oi := { dst := some 146, op := Op.move (Operand.tmp 0), type := 35, pos := "ref.go:138", after := #[], guard := none }) (v := ?_) rfl (by kernel_rfl) (by kernel_rfl) (by kernel_rfl) (fun _ _ _ h => h) (Or.inl ⟨by rfl, ?_⟩) (by assumption) ?_
                        rotate_left 1
                        · intro w hSw; (try dsimp only at hSw); go_simp; try (with_reducible rfl)
                        try simp only [Act.put, List.setIfInBounds_toArray, List.set_cons_zero, List.set_cons_succ]
                        refine wpAnyH_take (i := 1) (oi := { dst := some 147, op := Op.nilCheck (Operand.tmp 146), type := 0, pos := "ref.go:138", after := #[{ on := 0, ground := Ground.data }], guard := none }) (v := ?_) rfl (by kernel_rfl) (by kernel_rfl) (by kernel_rfl) (fun _ _ _ h => h) (Or.inl ⟨by rfl, ?_⟩) (by assumption) ?_
                        rotate_left 1
                        · intro w hSw; (try dsimp only at hSw); go_simp; try (with_reducible rfl)
                        try simp only [Act.put, List.setIfInBounds_toArray, List.set_cons_zero, List.set_cons_succ]
                        refine wpAnyH_take (i := 2) (oi := { dst := some 148, op := Op.fieldAddr 82 (Operand.tmp 147) 1, type := 0, pos := "ref.go:138", after := #[{ on := 1, ground := Ground.data }], guard := none }) (v := ?_) rfl (by kernel_rfl) (by kernel_rfl) (by kernel_rfl) (fun _ _ _ h => h) (Or.inl ⟨by rfl, ?_⟩) (by assumption) ?_
                        rotate_left 1
                        · intro w hSw; (try dsimp only at hSw); go_simp; try (with_reducible rfl)
                        try simp only [Act.put, List.setIfInBounds_toArray, List.set_cons_zero, List.set_cons_succ]
                        refine wpAnyH_take (i := 3) (oi := { dst := some 149, op := Op.load 80 (Operand.tmp 148), type := 80, pos := "ref.go:138", after := #[{ on := 2, ground := Ground.data }], guard := none }) (v := ?_) rfl (by kernel_rfl) (by kernel_rfl) (by kernel_rfl) (fun _ _ _ h => h) (Or.inl ⟨by rfl, ?_⟩) (by assumption) ?_
                        rotate_left 1
                        · intro w hSw; (try dsimp only at hSw); go_simp; try (with_reducible rfl)
                        try simp only [Act.put, List.setIfInBounds_toArray, List.set_cons_zero, List.set_cons_succ]
                        refine wpAnyH_take (i := 4) (oi := { dst := some 150, op := Op.move (Operand.tmp 1), type := 3, pos := "ref.go:138", after := #[], guard := none }) (v := ?_) rfl (by kernel_rfl) (by kernel_rfl) (by kernel_rfl) (fun _ _ _ h => h) (Or.inl ⟨by rfl, ?_⟩) (by assumption) ?_
                        rotate_left 1
                        · intro w hSw; (try dsimp only at hSw); go_simp; try (with_reducible rfl)
                        try simp only [Act.put, List.setIfInBounds_toArray, List.set_cons_zero, List.set_cons_succ]
                        refine wpAnyH_take (i := 5) (oi := { dst := some 151, op := Op.move (Operand.tmp 17), type := 83, pos := "ref.go:138", after := #[], guard := none }) (v := ?_) rfl (by kernel_rfl) (by kernel_rfl) (by kernel_rfl) (fun _ _ _ h => h) (Or.inl ⟨by rfl, ?_⟩) (by assumption) ?_
                        rotate_left 1
                        · intro w hSw; (try dsimp only at hSw); go_simp; try (with_reducible rfl)
                        try simp only [Act.put, List.setIfInBounds_toArray, List.set_cons_zero, List.set_cons_succ]
                        refine wpAnyH_take (i := 6) (oi := { dst := some 152, op := Op.move (Operand.tmp 16), type := 83, pos := "ref.go:138", after := #[], guard := none }) (v := ?_) rfl (by kernel_rfl) (by kernel_rfl) (by kernel_rfl) (fun _ _ _ h => h) (Or.inl ⟨by rfl, ?_⟩) (by assumption) ?_
                        rotate_left 1
                        · intro w hSw; (try dsimp only at hSw); go_simp; try (with_reducible rfl)
                        try simp only [Act.put, List.setIfInBounds_toArray, List.set_cons_zero, List.set_cons_succ]
                        refine wpAnyH_ready (rs := [7]) (by kernel_rfl) (by simp) ?_
                        refine AllReadyH.cons (o := { dst := some 153, op := Op.call { callee := Callee.builtin Builtin.append, args := #[Operand.tmp 151, Operand.tmp 152], argTypes := #[83, 83] }, type := 83, pos := "ref.go:138", after := #[{ on := 5, ground := Ground.data }, { on := 6, ground := Ground.data }], guard := none }) rfl (fun K hK => ?_) AllReadyH.nil
                        · skip
                          have BX7 : Below w1.heap.size w1 w6.drew := V6.out.drew
                          have OW7 := own_same (w' := w6.drew) R6.out (fun _ _ => rfl)
                          have KR : KeyS w6.drew (some ⟨g1, 0, none⟩) (KY.drop lk) := (own_keyS (by rw [List.length_drop, HLK.out]; omega) RO.out).after BX7
                          obtain ⟨v4, w7, hr4, ho4, hg4, g7, c7, rfl⟩ := append_keys w6.drew w1.heap.size _ (lk + 1) _ (some ⟨g1, 0, none⟩) 0 c1 (KY.drop lk) 83 OW7 KR (by rw [List.length_drop, HLK.out]; omega) (by omega) (by omega) BX7.size ⟨_, _, rfl⟩
                          rw [show lk + 1 + 0 = lk + 1 by omega] at hr4 ho4
                          have BW7 : Below w1.heap.size w1 w7 := below_own BX7 OW7 BX7.size hg4
                          have DN := Lib.hid (DONE.out w7 _ BW7 (by rw [← kC_app, ← kC_app, List.append_assoc] at ho4; rw [TI.out]; exact ho4))
                          have SE := SEE.out w7 (Q2.out.after BW7).maps
                          obtain ⟨-, z1, -, -, -, -, z4, z5, zf4, zf5, -⟩ := SE
                          have T1 : (w7.setCell ⟨gl, k * 6 + 4, none⟩ (.slice (some ⟨g7, 0, none⟩) (lk + 1) c7)).cell? ⟨gt, 1, none⟩ = some (.slice (some ⟨gl, 0, none⟩) L.length cl) := (World.cell?_of_block (Below.heap_setCell _ _ _ _ HGT.out)).trans z1
                          have T5 : (w7.setCell ⟨gl, k * 6 + 4, none⟩ (.slice (some ⟨g7, 0, none⟩) (lk + 1) c7)).cell? ⟨gl, k * 6 + 5, none⟩ = some (.int .i64 (md : Int)) := by rw [← z5]; exact cell_setCell_off w7 gl (k * 6 + 4) (k * 6 + 5) _ (by omega)
                          have T6 : (w7.setCell ⟨gl, k * 6 + 4, none⟩ (.slice (some ⟨g7, 0, none⟩) (lk + 1) c7)).frozen? ⟨gl, k * 6 + 5, none⟩ = false := by rw [World.frozen?_setCell]; exact zf5
                          clear OW7 KR hg4 BX7 ho4 z5 zf5
                          refine step_append_run rfl (.tmp 151) (.tmp 152) _ _ rfl _ _ rfl rfl _ _ hr4 ?_
                          refine hK.out _ _ z1 (fun hHeld => ?_)
                          clear hK K
                          try simp only [Act.put, List.setIfInBounds_toArray, List.set_cons_zero, List.set_cons_succ]
                          refine wpAnyH_take (i := 8) (oi := { dst := some 154, op := Op.indexAddr 80 (Operand.tmp 149) (Operand.tmp 150), type := 0, pos := "ref.go:138", after := #[{ on := 3, ground := Ground.data }, { on := 4, ground := Ground.data }, { on := 0, ground := Ground.phase }, { on := 1, ground := Ground.phase }, { on := 2, ground := Ground.phase }, { on := 3, ground := Ground.phase }, { on := 4, ground := Ground.phase }, { on := 5, ground := Ground.phase }, { on := 6, ground := Ground.phase }, { on := 7, ground := Ground.phase }], guard := none }) (v := ?_) rfl (by kernel_rfl) (by kernel_rfl) (by kernel_rfl) (fun _ _ _ h => h) (Or.inl ⟨by rfl, ?_⟩) (by assumption) ?_
                          rotate_left 1
                          · intro w hSw; (try dsimp only at hSw); go_simp; try (with_reducible rfl)
                          try simp only [Act.put, List.setIfInBounds_toArray, List.set_cons_zero, List.set_cons_succ]
                          refine wpAnyH_take (i := 9) (oi := { dst := some 155, op := Op.fieldAddr 85 (Operand.tmp 154) 1, type := 0, pos := "ref.go:138", after := #[{ on := 8, ground := Ground.data }, { on := 0, ground := Ground.phase }, { on := 1, ground := Ground.phase }, { on := 2, ground := Ground.phase }, { on := 3, ground := Ground.phase }, { on := 4, ground := Ground.phase }, { on := 5, ground := Ground.phase }, { on := 6, ground := Ground.phase }, { on := 7, ground := Ground.phase }], guard := none }) (v := ?_) rfl (by kernel_rfl) (by kernel_rfl) (by kernel_rfl) (fun _ _ _ h => h) (Or.inl ⟨by rfl, ?_⟩) (by assumption) ?_
                          rotate_left 1
                          · intro w hSw; (try dsimp only at hSw); go_simp; try (with_reducible rfl)
                          try simp only [Act.put, List.setIfInBounds_toArray, List.set_cons_zero, List.set_cons_succ]
                          refine wpAnyH_ready (rs := [10]) (by kernel_rfl) (by simp) ?_
                          refine AllReadyH.cons (o := { dst := none, op := Op.store 83 (Operand.tmp 155) (Operand.tmp 153), type := 0, pos := "ref.go:138", after := #[{ on := 9, ground := Ground.data }, { on := 7, ground := Ground.data }, { on := 7, ground := Ground.chain }, { on := 0, ground := Ground.phase }, { on := 1, ground := Ground.phase }, { on := 2, ground := Ground.phase }, { on := 3, ground := Ground.phase }, { on := 4, ground := Ground.phase }, { on := 5, ground := Ground.phase }, { on := 6, ground := Ground.phase }, { on := 7, ground := Ground.phase }], guard := none }) rfl (fun K hK => ?_) AllReadyH.nil
                          · skip
                            go_simp
                            refine hK.out _ _ T1 (fun hHeld => ?_)
                            clear hK K
                            try simp only [Act.put, List.setIfInBounds_toArray, List.set_cons_zero, List.set_cons_succ]
                            refine wpAnyH_done (by kernel_rfl) ?_ _
                            clear hHeld z1 z4 zf4 hr4
                            go_wp2_with fail
                            go_ret2
                            exact DN.out
        · have he' : (e4 != 0) = true := by simpa using he
          have HE : Hid (R = ⟨trM L, M, minusI 12, 0⟩) := Lib.hid (by rw [← HR2.out, if_neg he])
          have HM4 : Hid (M4 = M) := Lib.hid (HPE.out he)
          have MX := Lib.hid (MI.out 12 (by omega))
          generalize minusI 12 = mi at *
          clear HR2 HPE
          go_wp2_with fail
          refine (MX.out _).mono ?_
          rintro e w3 ⟨rfl, b3⟩
          replace Q := Lib.hid (Q.out.after b3)
          clear b3
          go_wp2_with fail
          go_ret2
          rw [HE.out]
          have q := Q.out
          rw [HM4.out] at q
          exact ⟨rfl, F, G4, ⟨⟨vl, L, rfl, q.maps⟩, q.mem, q.apart⟩, q.turn.mono (fun x hx => .inl (.inr hx)), fun x hx => .inl hx, q.foot⟩

end Go.Proofs.Ytempkpfcjonaaaa
