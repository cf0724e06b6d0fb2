/-
  Texts, one behind the other: MachRun, MachNil, MachShown.
  Conditions: those that each theorem states.
-/
import Derived.Deep.RegionHeld3
import Derived.Deep.CutBlock
import Derived.Test.YtlbhffdpklbhfaaGreatPz48
import Derived.Test.YtlbhffdpklbhfaaGreatPz44
namespace Go.Proofs.YtlbhffdpklbhfaaGreat
open Go.RowKit
set_option maxRecDepth 100000
set_option linter.unusedVariables false
set_option linter.unusedSimpArgs false
def endV (S : MS) (va : Option Addr) (ca : Nat) (vm : Option Addr) (cm : Nat) : Value := .agg #[.int .i64 (mCode S), .int .i64 S.at_, .int .u64 (mR0 S), .int .i64 S.steps, .slice va S.calls.length ca, .slice vm S.D.length cm]
structure EndR (B : Nat) (R : MS) (va : Option Addr) (ca : Nat) (vm : Option Addr) (cm : Nat) (L : List CR) (Ls : List MR) (u : World) : Prop where
  calls : ∃ B2, CrR B B2 u va ca L
  maps : ∃ B2, MpR B B2 u vm cm Ls
  c : L.map (·.c) = R.calls
  m : Ls.map (fun r => itL r.L) = mItems R
def RunQ (g : Nat) (R : MS) (H : Nat → Prop) (w : World) (e : Ending) (w' : World) : Prop :=
  ∃ F B va ca vm cm L Ls, e = .returned (endV R va ca vm cm) ∧ (sysX g R).R w' F ∧ Turn H w w' ∧ (∀ x, F x → (H x ∨ w.heap.size ≤ x) ∧ x < B) ∧ EndR B R va ca vm cm L Ls w' ∧ w.heap.size ≤ B
theorem CrR.base {B B' B2 : Nat} {u : World} {A : Option Addr} {c : Nat} {L : List CR} (h : CrR B B2 u A c L) (hb : B' ≤ B) : CrR B' B2 u A c L :=
  ⟨own_base h.row (fun k hk => Nat.le_trans hb (h.row.lt k hk).1), h.low, h.own, Nat.le_trans hb h.le⟩
theorem MpR.base {B B' B2 : Nat} {u : World} {A : Option Addr} {c : Nat} {L : List MR} (h : MpR B B2 u A c L) (hb : B' ≤ B) : MpR B' B2 u A c L :=
  ⟨own_base h.row (fun k hk => Nat.le_trans hb (h.row.lt k hk).1), h.low, h.own, Nat.le_trans hb h.le⟩
theorem CrR.stay {B B2 : Nat} {u u' : World} {A : Option Addr} {c : Nat} {L : List CR} (h : CrR B B2 u A c L) (hs : ∀ x, B ≤ x → x < u.heap.size → u'.heap[x]? = u.heap[x]?) : CrR B B2 u' A c L :=
  ⟨own_same h.row (fun x hx => hs x (h.row.lt x hx).1 (h.row.lt x hx).2), h.low, fun k hk => (h.own k hk).keep (fun x hx hl => hs x (Nat.le_trans h.le hx) hl), h.le⟩
theorem MpR.stay {B B2 : Nat} {u u' : World} {A : Option Addr} {c : Nat} {L : List MR} (h : MpR B B2 u A c L) (hz : u.heap.size ≤ u'.heap.size) (hs : ∀ x, B ≤ x → x < u.heap.size → u'.heap[x]? = u.heap[x]?) : MpR B B2 u' A c L :=
  ⟨own_same h.row (fun x hx => hs x (h.row.lt x hx).1 (h.row.lt x hx).2), h.low, fun k hk => (h.own k hk).stay hz (fun x hx hl => hs x (Nat.le_trans h.le hx) hl), h.le⟩
def RunI (w : World) (g : Nat) (n : Int) (R : MS) (H : Nat → Prop) (u : World) : Prop := ∃ S F, (sysX g S).R u F ∧ Turn H w u ∧ (∀ x, F x → H x ∨ w.heap.size ≤ x) ∧ pRun n S = R ∧ S.can
def rLeft (g : Nat) (n : Int) (u : World) : Nat :=
  match u.cell? ⟨g, 28, none⟩, u.cell? ⟨g, 30, none⟩ with
  | some (.bool false), some (.int .i64 s) => (n - s).toNat + 1
  | _, _ => 0
theorem rLeft_eq {u : World} {g : Nat} {n : Int} {S : MS} {F : Nat → Prop} (h : (sysX g S).R u F) : rLeft g n u = if S.over then 0 else (n - S.steps).toNat + 1 := by
  obtain ⟨A, _, hb, _, hok⟩ := sysX_blk h
  obtain ⟨-, c28, -, c30, -⟩ := xc_tail hb hok.n
  unfold rLeft
  rw [c28, c30]
  cases S.over <;> rfl
theorem six_b {w1 u : World} (h : Below w1.heap.size w1 u) {gx : Nat} (hg : w1.heap.size ≤ gx) (a b c d e f : Value) : Below w1.heap.size w1 ((((((u.setCell ⟨gx, 0, none⟩ a).setCell ⟨gx, 1, none⟩ b).setCell ⟨gx, 2, none⟩ c).setCell ⟨gx, 3, none⟩ d).setCell ⟨gx, 4, none⟩ e).setCell ⟨gx, 5, none⟩ f) := six_below h hg a b c d e f
theorem six_heap (w : World) (g : Nat) (a b c d e f : Value) {x : Nat} (hx : x ≠ g) : (six w g a b c d e f).heap[x]? = w.heap[x]? := by
  unfold six
  rw [Below.heap_setCell _ _ _ _ hx, Below.heap_setCell _ _ _ _ hx, Below.heap_setCell _ _ _ _ hx, Below.heap_setCell _ _ _ _ hx, Below.heap_setCell _ _ _ _ hx, Below.heap_setCell _ _ _ _ hx]
theorem six_size (w : World) (g : Nat) (a b c d e f : Value) : (six w g a b c d e f).heap.size = w.heap.size := by
  unfold six
  rw [setCell_size, setCell_size, setCell_size, setCell_size, setCell_size, setCell_size]
theorem sysX_calls {w : World} {g : Nat} {S : MS} {H : Nat → Prop} (h : (sysX g S).R w H) : ∃ (A0 : Option Addr) (c0 : Nat) (L : List CR), w.cell? ⟨g, 31, none⟩ = some (.slice A0 S.calls.length c0) ∧ w.ownsRow 0 59 6 (.slice A0 S.calls.length c0) S.calls.length (crC L) ∧ (∀ k, k < S.calls.length → CRS w (crAt L k)) ∧ (∀ k, k < S.calls.length → (crAt L k).ok) ∧ L.length = S.calls.length ∧ L.map (·.c) = S.calls := by
  obtain ⟨hok, A, hA, F1, F2, h1, ⟨F3, F4, h3, ⟨F5, F6, h5, h6, h7, h8⟩, h9, h10⟩, h11, h12⟩ := h
  obtain ⟨A0, c0, hvc, hcc1, hcc2⟩ := own_slice h6.1
  have hl : A.L.length = S.calls.length := by rw [← hA.L, List.length_map]
  have hlie := h5.2 w (fun x _ => rfl)
  refine ⟨A0, c0, A.L, ?_, ?_, fun k hk => hlie.c k (by rw [hl]; exact hk), fun k hk => hA.c k (by rw [hl]; exact hk), hl, hA.L⟩
  · rw [← hvc]; exact (xc_tail h1.1 hok.n).2.2.2.2
  · rw [← hvc]; exact h6.1
structure RZ (u : World) (gx : Nat) (cs : Array Value) (R : MS) (va : Option Addr) (ca : Nat) (vm : Option Addr) (cm : Nat) (L : List CR) (Ls : List MR) (v : World) : Prop where
  b : Below u.heap.size u v
  x : Blk gx cs 54 v
  ge : u.heap.size ≤ gx
  e : ∀ u', (∀ x, x ≠ gx → u'.heap[x]? = v.heap[x]?) → v.heap.size ≤ u'.heap.size → EndR u.heap.size R va ca vm cm L Ls u'
section
variable {u w6 w7 : World} {b1 b2 B2 B3 : Nat} {R : MS} {va vm : Option Addr} {ca cm : Nat} {L : List CR} {Ls : List MR}
theorem rz_alloc (h : Below u.heap.size u w7) (k1 : CrR b1 B2 w6 va ca L) (b67 : Below w6.heap.size w6 w7) (k2 : MpR b2 B3 w7 vm cm Ls) (h1 : u.heap.size ≤ b1) (h2 : u.heap.size ≤ b2) (ec : L.map (·.c) = R.calls) (em : Ls.map (fun r => itL r.L) = mItems R) (cs : Array Value) :
    RZ u w7.heap.size cs R va ca vm cm L Ls (w7.alloc (.cells cs 54)) :=
  ⟨below_alloc h _, Blk.new w7 _ _ rfl, h.size, fun u' hs hz => by
    have q : ∀ x, x < w7.heap.size → u'.heap[x]? = w7.heap[x]? := fun x hx => (hs x (by omega)).trans ((below_alloc (Below.refl w7.heap.size w7) (.cells cs 54)).block x hx)
    have hz7 : w7.heap.size ≤ u'.heap.size := Nat.le_trans (below_alloc (Below.refl w7.heap.size w7) (.cells cs 54)).size hz
    exact ⟨⟨B2, (k1.stay (u' := u') fun x h3 h4 => (q x (Nat.lt_of_lt_of_le h4 b67.size)).trans (b67.block x h4)).base h1⟩, ⟨B3, (k2.stay hz7 fun x h3 h4 => q x h4).base h2⟩, ec, em⟩⟩
theorem rz_six (h : Below u.heap.size u w7) (k1 : CrR b1 B2 w6 va ca L) (b67 : Below w6.heap.size w6 w7) (k2 : MpR b2 B3 w7 vm cm Ls) (h1 : u.heap.size ≤ b1) (h2 : u.heap.size ≤ b2) (ec : L.map (·.c) = R.calls) (em : Ls.map (fun r => itL r.L) = mItems R) {gx : Nat} (hx : u.heap.size ≤ gx) (x1 : gx < b1 ∨ w6.heap.size ≤ gx) (x2 : gx < b2)
    {a0 a1 a2 a3 a4 a5 : Value} (bx : Blk gx #[a0, a1, a2, a3, a4, a5] 54 w7) (a b c d e f : Value) :
    RZ u gx #[a, b, c, d, e, f] R va ca vm cm L Ls (six w7 gx a b c d e f) := by
  refine ⟨six_below h hx a b c d e f, six_blk bx a b c d e f, hx, fun u' hs hz => ?_⟩
  rw [six_size] at hz
  have q : ∀ x, x ≠ gx → u'.heap[x]? = w7.heap[x]? := fun x hx2 => (hs x hx2).trans (six_heap _ _ _ _ _ _ _ _ hx2)
  exact ⟨⟨B2, (k1.stay (u' := u') fun x h3 h4 => (q x (by rcases x1 with c | c <;> omega)).trans (b67.block x h4)).base h1⟩, ⟨B3, (k2.stay hz fun x h3 h4 => q x (by omega)).base h2⟩, ec, em⟩
theorem RZ.set {v : World} {gx : Nat} {cs : List Value} (h : RZ u gx cs.toArray R va ca vm cm L Ls v) (k : Nat) (x : Value) : RZ u gx (cs.set k x).toArray R va ca vm cm L Ls (v.setCell ⟨gx, k, none⟩ x) :=
  ⟨h.b.setCell (p := ⟨gx, k, none⟩) h.ge _, blk_list h.x k x, h.ge, fun u' hs hz => h.e u' (fun y hy => (hs y hy).trans (Below.heap_setCell _ _ _ _ hy)) (by rw [setCell_size] at hz; exact hz)⟩
end
set_option maxHeartbeats 8000000 in
theorem m11_Run (w : World) (g : Nat) (S : MS) (H : Nat → Prop) (n : Int) (h : (sysX g S).R w H) (hcan : S.can) (hn : n ≤ 50000) (hs5 : S.steps ≤ 50000) :
    Calls Tryz.prog 17 #[.pointer (some ⟨g, 0, none⟩), .int .i64 n] w (RunQ g (pRun n S) H w) := by
  have C1 := Lib.hid fun u (b : Below w.heap.size w u) => m11_isNone u g S H ((sysX g S).after h b)
  have ST := Lib.hid fun u (S : MS) F (h : (sysX g S).R u F) (hgo : S.over = false → S.go) => m11_Step u g S F h hgo
  have CE := Lib.hid fun u (S : MS) F (h : (sysX g S).R u F) => (show _ from by
    obtain ⟨A, _, hb, _, hok⟩ := sysX_blk h
    obtain ⟨q27, q28, q29, q30, q31⟩ := xc_tail hb hok.n
    exact (And.intro q28 q30 : u.cell? ⟨g, 28, none⟩ = some (.bool S.over) ∧ u.cell? ⟨g, 30, none⟩ = some (.int .i64 S.steps)))
  have I0 : Hid (∀ w0 u, Below w.heap.size w w0 → Below w0.heap.size w0 u → RunI w0 g n (pRun n S) H u) := Lib.hid fun w0 u b0 b => ⟨S, H, (sysX g S).after h (below_next' b0 b), Turn.of_below b, fun x hx => .inl hx, rfl, hcan⟩
  have RE : Hid ((pRun n S).steps ≤ 50000) := Lib.hid (by rcases run_steps n S with c | c <;> omega)
  have HG : Hid (∀ x, H x → x < w.heap.size) := Lib.hid fun x hx => (sysX g S).lt h hx
  clear h hcan
  generalize pRun n S = R at *
  go_enter Tryz.func17, Tryz.ntmps17
  have b0 := below_alloc (Below.refl w.heap.size w) (.cells #[.int .i64 0, .int .i64 0, .int .u64 0, .int .i64 0, .slice none 0 0, .slice none 0 0] 54)
  have BG := Blk.new w #[.int .i64 0, .int .i64 0, .int .u64 0, .int .i64 0, .slice none 0 0, .slice none 0 0] 54 (g := w.heap.size) rfl
  have B0 := Lib.hid b0
  have BZ := Lib.hid BG
  clear b0 BG
  go_upto_block 0 with ((go_at_call 34; refine (C1.out _ B0.out).mono ?_; rintro e w1 ⟨rfl, b1⟩; have J := Lib.hid (I0.out _ _ B0.out b1)))
  generalize hw0 : w.alloc (.cells #[.int .i64 0, .int .i64 0, .int .u64 0, .int .i64 0, .slice none 0 0, .slice none 0 0] 54) = w0 at *
  have LT0 : Hid (w.heap.size < w0.heap.size) := Lib.hid BZ.out.lt
  clear hw0 b1 C1 I0
  go_cut [] (fun wr => Hid (∃ F, (sysX g R).R wr F ∧ Turn H w0 wr ∧ ∀ x, F x → H x ∨ w0.heap.size ≤ x))
  case first =>
    go_wp2_with fail
    go_loopw [] (fun wr => Hid (RunI w0 g n R H wr)) (fun wr => rLeft g n wr)
    case atStart => exact J
    case round =>
      obtain ⟨S1, F1, hS, t1, f1, e1, can1⟩ := hrel.out
      obtain ⟨c28, c30⟩ := CE.out wr S1 F1 hS
      have LE := Lib.hid (rLeft_eq (n := n) hS)
      cases ho : S1.over
      · rw [ho] at c28
        by_cases hs : (S1.steps : Int) < n
        · have STP := Lib.hid (ST.out wr S1 F1 hS (fun _ => can_go can1 ho (by omega)))
          have NXT : Hid (pRun n (pStep S1).1 = R ∧ (pStep S1).1.can ∧ ((pStep S1).1.over = true ∨ (pStep S1).1.steps = S1.steps + 1)) := Lib.hid ⟨by rw [← e1, run_step ho hs], step_can ho can1, step_steps ho⟩
          have T1 := Lib.hid (And.intro t1 f1)
          rw [ho, if_neg Bool.false_ne_true] at LE
          clear hS t1 f1 e1 can1 ho hrel
          go_wp2_with fail
          refine (STP.out).mono ?_
          rintro e w3 ⟨rfl, F3, h3, t3, f3⟩
          have NI : Hid (RunI w0 g n R H w3) := Lib.hid ⟨(pStep S1).1, F3, h3, T1.out.1.trans t3 T1.out.2, fun x hx => by
            rcases f3 x hx with c | c
            · exact T1.out.2 x c
            · exact .inr (Nat.le_trans T1.out.1.size c), NXT.out.1, NXT.out.2.1⟩
          have NL : Hid (rLeft g n w3 < rLeft g n wr) := Lib.hid (by
            rw [LE.out, rLeft_eq (n := n) h3]
            rcases NXT.out.2.2 with c | c
            · rw [c, if_pos rfl]; omega
            · split
              · omega
              · rw [c]; omega)
          clear h3 t3 f3 STP NXT T1 LE c28 c30
          go_wp2_with fail
          go_round
          case rel => exact NI
          case measure => exact NL.out
        · have FIN : Hid (∃ F, (sysX g R).R wr F ∧ Turn H w0 wr ∧ ∀ x, F x → H x ∨ w0.heap.size ≤ x) := Lib.hid ⟨F1, by rw [← e1, run_stop (.inr (by omega))]; exact hS, t1, f1⟩
          clear hS t1 f1 e1 can1 ho hrel LE
          go_wp2_with fail
          go_meet
          exact FIN
      · rw [ho] at c28
        have FIN : Hid (∃ F, (sysX g R).R wr F ∧ Turn H w0 wr ∧ ∀ x, F x → H x ∨ w0.heap.size ≤ x) := Lib.hid ⟨F1, by rw [← e1, run_stop (.inl ho)]; exact hS, t1, f1⟩
        clear hS t1 f1 e1 can1 ho hrel LE
        go_wp2_with fail
        go_meet
        exact FIN
  case rest =>
    obtain ⟨F1, h1, t1, f1⟩ := hcut.out
    have hl1 : w0.heap.size ≤ wc.heap.size := t1.size
    have GR : Hid (Blk w.heap.size #[.int .i64 0, .int .i64 0, .int .u64 0, .int .i64 0, .slice none 0 0, .slice none 0 0] 54 wc) := Lib.hid (BZ.out.same (t1.block _ LT0.out (fun c => Nat.lt_irrefl _ (HG.out _ c))))
    obtain ⟨A0, c0, L0, c31, o31, s31, k31, l31, m31⟩ := sysX_calls h1
    obtain ⟨A, _, hb, _, hok⟩ := sysX_blk h1
    obtain ⟨q27, q28, q29, q30, -⟩ := xc_tail hb hok.n
    have q5 : wc.cell? ⟨g, 5, none⟩ = some (.int .u64 (rg R.r 0).1) := (sysX_reg h1 0 (by omega)).1
    have hcl : R.calls.length ≤ 1000000 := by have := hok.steps.1; have := RE.out; omega
    have CP := Lib.hid fun u (b : Below wc.heap.size wc u) => m11_copied u A0 c0 R.calls.length L0 0 (own_after o31 b) (fun k hk => (s31 k hk).after b) k31 l31 hcl
    have IT := Lib.hid fun u (b : Below wc.heap.size wc u) => m11_items u g R F1 ((sysX g R).after h1 b)
    have KK := Lib.hid fun u (b : Below wc.heap.size wc u) => And.intro (cell_on q29 b) (And.intro (cell_on q27 b) (And.intro (cell_on q30 b) (cell_on c31 b)))
    have K2 := Lib.hid fun u (b : Below wc.heap.size wc u) => And.intro (cell_on q28 b) (And.intro (cell_on q29 b) (cell_on q5 b))
    have GL : Hid (g < wc.heap.size ∧ w.heap.size < wc.heap.size) := Lib.hid ⟨hb.lt, Nat.lt_of_lt_of_le LT0.out hl1⟩
    have SX := Lib.hid (And.intro h1 (And.intro t1 f1))
    have M31 := Lib.hid m31
    clear h1 t1 f1 o31 s31 k31 l31 q27 q28 q29 q30 c31 q5 hb hok ST CE hl1 J hcut m31
    generalize wc = w2 at *
    go_upto_region 5 with fail
    go_cut [5] (fun xv wr => ∃ gx va ca vm cm L Ls, xv = .pointer (some ⟨gx, 0, none⟩) ∧ Hid (RZ w2 gx #[.int .i64 R.why, .int .i64 R.at_, .int .u64 0, .int .i64 R.steps, .slice va R.calls.length ca, .slice vm R.D.length cm] R va ca vm cm L Ls wr))
    case first =>
      have HB : Below w2.heap.size w2 w2.drew := Below.drew (Below.refl _ _)
      have HA : Below w2.heap.size w2 ((w2.alloc (.cells #[.int .i64 0, .int .i64 0, .int .u64 0, .int .i64 0, .slice none 0 0, .slice none 0 0] 54)).drew) := Below.drew (below_alloc (Below.refl _ _) _)
      have BA : Hid (Blk w2.heap.size #[.int .i64 0, .int .i64 0, .int .u64 0, .int .i64 0, .slice none 0 0, .slice none 0 0] 54 ((w2.alloc (.cells #[.int .i64 0, .int .i64 0, .int .u64 0, .int .i64 0, .slice none 0 0, .slice none 0 0] 54)).drew)) := Lib.hid (Blk.new w2 _ _ rfl)
      have SA : Hid (w2.heap.size < ((w2.alloc (.cells #[.int .i64 0, .int .i64 0, .int .u64 0, .int .i64 0, .slice none 0 0, .slice none 0 0] 54)).drew).heap.size) := Lib.hid BA.out.lt
      go_region_held3 (fun w' => w'.cell? ⟨g, 29, none⟩ = some (.int .i64 R.why) ∧ w'.cell? ⟨g, 27, none⟩ = some (.int .i64 R.at_) ∧ w'.cell? ⟨g, 30, none⟩ = some (.int .i64 R.steps) ∧ w'.cell? ⟨g, 31, none⟩ = some (.slice A0 R.calls.length c0))
        (first
          | with_reducible exact KK.out _ HB
          | with_reducible exact KK.out _ HA
          | with_reducible exact KK.out _ (below_alloc HB _)
          | with_reducible exact KK.out _ (six_b HB LX _ _ _ _ _ _))
        (first
          | (go_at_call 38; refine (CP.out _ HB).mono ?_; rintro e w6 ⟨va, ca, L, B2, rfl, y1, y2, b6⟩; have LB1 := HB.size; replace HB := below_next' HB b6; have EL := Lib.hid y2; have K1 := Lib.hid y1; clear b6 y1 y2)
          | (go_at_call 38; refine (CP.out _ HA).mono ?_; rintro e w6 ⟨va, ca, L, B2, rfl, y1, y2, b6⟩; have LB1 := HA.size; replace HB := below_next' HA b6; have EL := Lib.hid y2; have K1 := Lib.hid y1; have BX := Lib.hid (BA.out.after b6); have LX : w2.heap.size ≤ w2.heap.size := Nat.le_refl _; have SX6 := Lib.hid (Nat.lt_of_lt_of_le SA.out b6.size); clear b6 y1 y2)
          | (go_at_call 39; refine (IT.out _ HB).mono ?_; rintro e w7 ⟨vm, cm, Ls, B3, rfl, y1, y2, b6⟩; have LB2 := HB.size; replace HB := below_next' HB b6; have EM := Lib.hid y2; have K2 := Lib.hid y1; have B67 := Lib.hid b6; replace BX := Lib.hid (BX.out.after b6); obtain ⟨⟨z0, z1, z2, z3, z4, z5⟩, f0, f1, f2, f3, f4, f5⟩ := Blk.six BX.out; clear b6 y1 y2)
          | (go_at_call 39; refine (IT.out _ HB).mono ?_; rintro e w7 ⟨vm, cm, Ls, B3, rfl, y1, y2, b6⟩; have LB2 := HB.size; replace HB := below_next' HB b6; have EM := Lib.hid y2; have K2 := Lib.hid y1; have B67 := Lib.hid b6; clear b6 y1 y2)
          | (go_at_call 39; refine (IT.out _ (below_alloc HB _)).mono ?_; rintro e w7 ⟨vm, cm, Ls, B3, rfl, y1, y2, b6⟩; have LX := HB.size; have SM := Lib.hid (Blk.lt (Blk.new w6 #[.int .i64 0, .int .i64 0, .int .u64 0, .int .i64 0, .slice none 0 0, .slice none 0 0] 54 (g := w6.heap.size) rfl)); have LB2 := (below_alloc HB (.cells #[.int .i64 0, .int .i64 0, .int .u64 0, .int .i64 0, .slice none 0 0, .slice none 0 0] 54)).size; have B67 := Lib.hid (below_next' (below_alloc (Below.refl w6.heap.size w6) (.cells #[.int .i64 0, .int .i64 0, .int .u64 0, .int .i64 0, .slice none 0 0, .slice none 0 0] 54)) b6); replace HB := below_next' HB B67.out; have EM := Lib.hid y2; have K2 := Lib.hid y1; have BX := Lib.hid ((Blk.new _ #[.int .i64 0, .int .i64 0, .int .u64 0, .int .i64 0, .slice none 0 0, .slice none 0 0] 54 rfl).after b6); obtain ⟨⟨z0, z1, z2, z3, z4, z5⟩, f0, f1, f2, f3, f4, f5⟩ := Blk.six BX.out; clear b6 y1 y2))
      all_goals
        rename_i hh
        clear hh
        try clear z0 z1 z2 z3 z4 z5 f0 f1 f2 f3 f4 f5
        go_wp2_with fail
        go_meet
        first
          | exact ⟨_, va, ca, vm, cm, L, Ls, rfl, Lib.hid (rz_alloc HB K1.out B67.out K2.out LB1 LB2 (EL.out.trans M31.out) EM.out _)⟩
          | exact ⟨_, va, ca, vm, cm, L, Ls, rfl, Lib.hid (rz_six HB K1.out B67.out K2.out LB1 LB2 (EL.out.trans M31.out) EM.out LX (.inr (Nat.le_refl _)) SM.out BX.out _ _ _ _ _ _)⟩
          | exact ⟨_, va, ca, vm, cm, L, Ls, rfl, Lib.hid (rz_six HB K1.out B67.out K2.out LB1 LB2 (EL.out.trans M31.out) EM.out LX (.inl SA.out) SX6.out BX.out _ _ _ _ _ _)⟩
    case rest =>
      obtain ⟨gx, va, ca, vm, cm, L, Ls, rfl, Q⟩ := hcut
      obtain ⟨y28, y29, y5⟩ := K2.out wc Q.out.b
      obtain ⟨⟨z0, z1, z2, z3, z4, z5⟩, f0, f1, f2, f3, f4, f5⟩ := Blk.six Q.out.x
      clear CP IT KK
      go_upto_block 2 with fail
      go_cut [] (fun wr => Hid (RZ w2 gx #[.int .i64 (mCode R), .int .i64 R.at_, .int .u64 (mR0 R), .int .i64 R.steps, .slice va R.calls.length ca, .slice vm R.D.length cm] R va ca vm cm L Ls wr))
      case first =>
        cases ho : R.over
        · rw [ho] at y28
          have Q2 : Hid (RZ w2 gx #[.int .i64 (mCode R), .int .i64 R.at_, .int .u64 (mR0 R), .int .i64 R.steps, .slice va R.calls.length ca, .slice vm R.D.length cm] R va ca vm cm L Ls (wc.setCell ⟨gx, 0, none⟩ (.int .i64 111))) := Lib.hid (by
            have q := Q.out.set 0 (.int .i64 111)
            have e1 : mCode R = 111 := by unfold mCode; rw [ho]; rfl
            have e2 : mR0 R = 0 := by unfold mR0; rw [ho]; rfl
            rw [e1, e2]
            exact q)
          clear ho
          go_wp2_with fail
          go_meet
          exact Q2
        · rw [ho] at y28
          have e1 : mCode R = R.why := by unfold mCode; rw [ho]; rfl
          cases hw : (R.why == 0)
          · have Q2 : Hid (RZ w2 gx #[.int .i64 (mCode R), .int .i64 R.at_, .int .u64 (mR0 R), .int .i64 R.steps, .slice va R.calls.length ca, .slice vm R.D.length cm] R va ca vm cm L Ls wc) := Lib.hid (by
              have e2 : mR0 R = 0 := by unfold mR0; rw [ho, hw]; rfl
              rw [e1, e2]
              exact Q.out)
            clear ho e1
            generalize R.why = ry at *
            go_wp2_with fail
            go_meet
            exact Q2
          · have Q2 : Hid (RZ w2 gx #[.int .i64 (mCode R), .int .i64 R.at_, .int .u64 (mR0 R), .int .i64 R.steps, .slice va R.calls.length ca, .slice vm R.D.length cm] R va ca vm cm L Ls (wc.setCell ⟨gx, 2, none⟩ (.int .u64 (rg R.r 0).1))) := Lib.hid (by
              have q := Q.out.set 2 (.int .u64 (rg R.r 0).1)
              have e2 : mR0 R = (rg R.r 0).1 := by unfold mR0; rw [ho, hw]; rfl
              rw [e1, e2]
              exact q)
            clear ho e1
            generalize R.why = ry at *
            go_wp2_with fail
            go_meet
            exact Q2
      case rest =>
        have G2 : Hid (Blk w.heap.size #[.int .i64 0, .int .i64 0, .int .u64 0, .int .i64 0, .slice none 0 0, .slice none 0 0] 54 wc) := Lib.hid (GR.out.after hcut.out.b)
        clear z0 z1 z2 z3 z4 z5 f0 f1 f2 f3 f4 f5 y28 y29 y5
        obtain ⟨⟨z0, z1, z2, z3, z4, z5⟩, -⟩ := Blk.six hcut.out.x
        obtain ⟨⟨x0, x1, x2, x3, x4, x5⟩, f0, f1, f2, f3, f4, f5⟩ := Blk.six G2.out
        have Z6 := six_blk (show Blk w.heap.size #[.int .i64 0, .int .i64 0, .int .u64 0, .int .i64 0, .slice none 0 0, .slice none 0 0] 54 _ from G2.out) (.int .i64 (mCode R)) (.int .i64 R.at_) (.int .u64 (mR0 R)) (.int .i64 R.steps) (.slice va R.calls.length ca) (.slice vm R.D.length cm)
        obtain ⟨⟨r0, r1, r2, r3, r4, r5⟩, -⟩ := Blk.six Z6
        have sm : ∀ x, x ≠ w.heap.size → (six wc w.heap.size (.int .i64 (mCode R)) (.int .i64 R.at_) (.int .u64 (mR0 R)) (.int .i64 R.steps) (.slice va R.calls.length ca) (.slice vm R.D.length cm)).heap[x]? = wc.heap[x]? := fun x hx => six_heap _ _ _ _ _ _ _ _ hx
        have sz := six_size wc w.heap.size (.int .i64 (mCode R)) (.int .i64 R.at_) (.int .u64 (mR0 R)) (.int .i64 R.steps) (.slice va R.calls.length ca) (.slice vm R.D.length cm)
        obtain ⟨h1, t1, f1'⟩ := SX.out
        have hF : ∀ x, F1 x → x < w2.heap.size := fun x hx => (sysX g R).lt h1 hx
        have hF2 : ∀ x, F1 x → x ≠ w.heap.size := fun x hx e => by
          rcases f1' x hx with c | c
          · have := HG.out x c; omega
          · have := LT0.out; omega
        have BW := B0.out
        have FIN : RunQ g R H w (.returned (endV R va ca vm cm)) (six wc w.heap.size (.int .i64 (mCode R)) (.int .i64 R.at_) (.int .u64 (mR0 R)) (.int .i64 R.steps) (.slice va R.calls.length ca) (.slice vm R.D.length cm)) := by
          refine ⟨F1, w2.heap.size, va, ca, vm, cm, L, Ls, rfl, (sysX g R).keep h1 (fun x hx => (sm x (hF2 x hx)).trans (hcut.out.b.block x (hF x hx))), ?_, fun x hx => ⟨?_, hF x hx⟩, ?_, Nat.le_trans BW.size t1.size⟩
          · have q := ((Turn.of_below (F := H) BW).trans t1 (fun x hx => .inl hx)).next hcut.out.b
            exact ((((((q.setCell (p := ⟨w.heap.size, 0, none⟩) (.inr (Nat.le_refl _)) _).setCell (p := ⟨w.heap.size, 1, none⟩) (.inr (Nat.le_refl _)) _).setCell (p := ⟨w.heap.size, 2, none⟩) (.inr (Nat.le_refl _)) _).setCell (p := ⟨w.heap.size, 3, none⟩) (.inr (Nat.le_refl _)) _).setCell (p := ⟨w.heap.size, 4, none⟩) (.inr (Nat.le_refl _)) _).setCell (p := ⟨w.heap.size, 5, none⟩) (.inr (Nat.le_refl _)) _)
          · rcases f1' x hx with c | c
            · exact .inl c
            · exact .inr (Nat.le_trans BW.size c)
          · have q := hcut.out.e wc (fun _ _ => rfl) (Nat.le_refl _)
            obtain ⟨⟨B2, q1⟩, ⟨B3, q2⟩, q3, q4⟩ := q
            have gl := GL.out.2
            exact ⟨⟨B2, q1.stay fun x h3 h4 => sm x (by omega)⟩, ⟨B3, q2.stay (by rw [sz]; exact Nat.le_refl _) fun x h3 h4 => sm x (by omega)⟩, q3, q4⟩
        have FF := Lib.hid FIN
        have RR := Lib.hid (And.intro r0 (And.intro r1 (And.intro r2 (And.intro r3 (And.intro r4 r5)))))
        clear r0 r1 r2 r3 r4 r5 sm sz h1 t1 f1' hF hF2 BW FIN Z6
        go_wp2_with fail
        have r := RR.out
        have FIN := FF.out
        unfold six at r FIN
        obtain ⟨r0, r1, r2, r3, r4, r5⟩ := r
        exact bodyPost_ret (v := endV R va ca vm cm) (by simp [endV, results, Tryz.results17, go_sem, r0, r1, r2, r3, r4, r5]) rfl FIN
theorem ins_new (w : World) (l : List Ins) : InsS (w.alloc (.cells (inC l).toArray 63)) (some ⟨w.heap.size, 0, none⟩) l := fun h0 => by
  have hB := Blk.new w (inC l).toArray 63 (g := w.heap.size) rfl
  have hc : ∀ k, k < l.length → ∀ r, r < 5 → (w.alloc (.cells (inC l).toArray 63)).cell? ⟨w.heap.size, 0 + k * 5 + r, none⟩ = (cI (iAt l k))[r]? := fun k hk r hr => by
    rw [hB.cell, List.getElem?_toArray, Nat.zero_add, inC_at l k r hk hr]
  exact ⟨w.heap.size, 0, rfl, hB.lt, fun k hk => ⟨hc k hk 0 (by omega), hc k hk 1 (by omega), hc k hk 2 (by omega), hc k hk 3 (by omega), hc k hk 4 (by omega)⟩⟩
theorem new_can {l : List Ins} {ctx : List Int} {D : List Df} {L : List IR} {dr : List Int} {S : MS} (hL : ∀ k, k < L.length → IrOk (irAt L k)) (h : mNew l ctx D (itLs L) dr = some S) : S.can ∧ S.steps = 0 ∧ S.calls = [] ∧ S.over = false ∧ S.D = D ∧ S.dr = dr := by
  have hLl : (itLs L).length = L.length := by unfold itLs; rw [List.length_map]
  unfold mNew at h
  split at h
  · rename_i hq
    simp only [Bool.and_eq_true, beq_iff_eq, decide_eq_true_eq] at hq
    unfold mMade at h
    split at h
    · cases h
    · rename_i T hT
      split at h
      · have e := (Option.some.inj h).symm
        subst e
        have hr : tRight D = true := by
          cases h : tRight D
          · unfold tNew at hT
            rw [h, if_neg Bool.false_ne_true] at hT
            cases hT
          · rfl
        have e : tNew (memM ctx) D = tNewG 0 D (memM ctx) [] := by unfold tNew; rw [hr, if_pos rfl]
        unfold tRight at hr
        simp only [Bool.and_eq_true, List.all_eq_true, decide_eq_true_eq] at hr
        have hlen := newM_len D 0 (memM ctx) [] hr.1
        have s2 := (fill_same (itLs L) 0 T (tNew (memM ctx) D).1 (itLs_short hL)).2
        rw [← e] at hlen
        have hm : (memM ctx).length = 2 := rfl
        refine ⟨fun _ => ⟨Nat.le_refl _, ?_⟩, rfl, rfl, rfl, rfl, rfl⟩
        show (mFill 0 (itLs L) T (tNew (memM ctx) D).1).2.1.length ≤ 20000 + 0
        omega
      · cases h
  · cases h
def ev0 : EV := ⟨[], none, 0, [], none, 0, [], none, 0, [], none, 0⟩
theorem ev0_ok : ev0.ok := ⟨⟨fun k hk => absurd hk (by simp [ev0]), Nat.le_refl _, Nat.zero_le _⟩, ⟨Nat.le_refl _, Nat.zero_le _⟩, ⟨fun k hk => absurd hk (by simp [ev0]), Nat.le_refl _, Nat.zero_le _⟩, ⟨fun k hk => absurd hk (by simp [ev0]), Nat.zero_le _, Nat.le_refl _, Nat.zero_le _⟩⟩
theorem ev0_s (w : World) : EnvS w ev0 := ⟨fun h => absurd h (by simp [ev0]), fun h => absurd h (by simp [ev0]), fun h => absurd h (by simp [ev0]), fun h => absurd h (by simp [ev0])⟩
def sh1 : List Ins := [⟨183, 0, 0, 0, 7⟩, ⟨149, 0, 0, 0, 0⟩]
def sh2 : List Ins := [⟨149, 0, 0, 0, 0⟩]
def shF (S : MS) : Int × Int × Nat × Nat := (mCode (pRun 10 S), mR0 (pRun 10 S), (pRun 10 S).steps, (pRun 10 S).at_)
theorem sh1_runs : (mNew sh1 [] [] [] []).map shF = some (0, 7, 2, 1) := by kernel_rfl
theorem sh2_runs : (mNew sh2 [] [] [] []).map shF = some (110, 0, 0, 0) := by kernel_rfl
theorem shF_of {o : Option MS} {a b : Int} {c d : Nat} (h : o.map shF = some (a, b, c, d)) : ∃ S, o = some S ∧ mCode (pRun 10 S) = a ∧ mR0 (pRun 10 S) = b ∧ (pRun 10 S).steps = c ∧ (pRun 10 S).at_ = d := by
  cases o with
  | none => cases h
  | some S =>
    simp only [Option.map_some, Option.some.injEq, shF, Prod.mk.injEq] at h
    exact ⟨S, rfl, h.1, h.2.1, h.2.2.1, h.2.2.2⟩
theorem sh1_all : OkAll sh1 := by
  intro k hk
  have : k = 0 ∨ k = 1 := by simp [sh1] at hk; omega
  rcases this with rfl | rfl <;> (unfold Ins.ok sh1 iAt; decide)
theorem sh2_all : OkAll sh2 := by
  intro k hk
  have : k = 0 := by simp [sh2] at hk; omega
  subst this
  unfold Ins.ok sh2 iAt; decide
theorem two_keep {u u' : World} {S : MS} {g2 : Nat} {F F2 : Nat → Prop} (h : (sysX g2 S).R u F2) (t : Turn F u u') (d : ∀ x, F2 x → ¬ F x) : (sysX g2 S).R u' F2 := (sysX g2 S).keep h fun x hx => t.block x ((sysX g2 S).lt h hx) (d x hx)
set_option maxHeartbeats 8000000 in
theorem l11_shown (w : World) : Calls Tryz.prog 7 #[] w (Gives (.bool true) w) := by
  obtain ⟨S1, n1, a1, a2, a3, a4⟩ := shF_of sh1_runs
  obtain ⟨S2, n2, b1, b2, b3, b4⟩ := shF_of sh2_runs
  obtain ⟨c1, c2, -⟩ := new_can (L := []) (fun k hk => absurd hk (by simp)) n1
  obtain ⟨d1, d2, -⟩ := new_can (L := []) (fun k hk => absurd hk (by simp)) n2
  have N1 := Lib.hid fun u A (h : InsS u A sh1) => m11_New u sh1 A 2 ev0 h sh1_all (by simp [sh1]) (by simp [sh1]) (by unfold maxLen; omega) (ev0_s u) ev0_ok
  have N2 := Lib.hid fun u A (h : InsS u A sh2) => m11_New u sh2 A 1 ev0 h sh2_all (by simp [sh2]) (by simp [sh2]) (by unfold maxLen; omega) (ev0_s u) ev0_ok
  rw [show mNew sh1 ev0.ctx ev0.D (itLs ev0.L) ev0.dr = some S1 from n1] at N1
  rw [show mNew sh2 ev0.ctx ev0.D (itLs ev0.L) ev0.dr = some S2 from n2] at N2
  have R1 := Lib.hid fun u g F (h : (sysX g S1).R u F) => m11_Run u g S1 F 10 h c1 (by omega) (by omega)
  have R2 := Lib.hid fun u g F (h : (sysX g S2).R u F) => m11_Run u g S2 F 10 h d1 (by omega) (by omega)
  unfold RunQ endV at R1 R2
  rw [a1, a2, a3, a4] at R1
  rw [b1, b2, b3, b4] at R2
  have I1 := Lib.hid fun u => ins_new u sh1
  have I2 := Lib.hid fun u => ins_new u sh2
  clear n1 n2 a1 a2 a3 a4 b1 b2 b3 b4 c1 c2 d1 d2
  generalize pRun 10 S1 = Q1 at *
  generalize pRun 10 S2 = Q2 at *
  have B0 := Lib.hid (Below.refl w.heap.size w)
  go_enter Tryz.func7, Tryz.ntmps7
  go_wp2_with fail
  refine (N1.out _ _ (I1.out w)).mono ?_
  rintro e w2 ⟨g1, F1, rfl, r1, b1, f1⟩
  have B1 := Lib.hid (below_next' (below_alloc (Below.refl w.heap.size w) _) b1)
  have FL1 : Hid ((∀ x, F1 x → w.heap.size ≤ x) ∧ ∀ x, F1 x → x < w2.heap.size) := Lib.hid ⟨fun x hx => Nat.le_trans (by simp) (f1 x hx), fun x hx => (sysX g1 S1).lt r1 hx⟩
  have X1 := Lib.hid r1
  clear r1 b1 f1 N1 I1 B0
  go_wp2_with fail
  refine (N2.out _ _ (I2.out w2)).mono ?_
  rintro e w3 ⟨g2, F2, rfl, r2, b2, f2⟩
  have b2' := below_next' (below_alloc (Below.refl w2.heap.size w2) _) b2
  have B2 := Lib.hid (below_next' B1.out b2')
  have FL2 : Hid ((∀ x, F2 x → w.heap.size ≤ x) ∧ ∀ x, F2 x → ¬ F1 x) := Lib.hid ⟨fun x hx => Nat.le_trans B1.out.size (Nat.le_trans (by simp) (f2 x hx)), fun x hx hx1 => by
    have q1 := FL1.out.2 x hx1
    have q2 : w2.heap.size ≤ x := Nat.le_trans (by simp) (f2 x hx)
    omega⟩
  have X2 := Lib.hid r2
  have C1 := Lib.hid (R1.out w3 g1 F1 ((sysX g1 S1).after X1.out b2'))
  clear r2 b2 b2' f2 N2 I2 X1 B1 R1
  go_wp2_with fail
  refine (C1.out).mono ?_
  rintro e w4 ⟨F3, N3, va, ca, vm, cm, L, Ls, rfl, r3, t3, f3, -, -⟩
  have B3 := Lib.hid (Turn.on B2.out t3 B2.out.size FL1.out.1)
  have C2 := Lib.hid (R2.out w4 g2 F2 (two_keep X2.out t3 FL2.out.2))
  clear r3 t3 f3 C1 R2 X2 B2
  go_wp2_with fail
  refine (C2.out).mono ?_
  rintro e w5 ⟨F4, N4, vb, cb, vn, cn, L4, Ls4, rfl, r4, t4, f4, -, -⟩
  have B4 := Lib.hid (Turn.on B3.out t4 B3.out.size FL2.out.1)
  clear r4 t4 f4 C2 B3
  go_wp2_with fail
  go_ret
  exact ⟨rfl, below_alloc (below_alloc B4.out _) _⟩
end Go.Proofs.YtlbhffdpklbhfaaGreat
