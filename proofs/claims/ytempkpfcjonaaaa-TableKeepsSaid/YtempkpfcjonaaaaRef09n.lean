/-
  Layer 9's own New: what it answers, what holds while it makes maps; where the maps may not be.
  Conditions: none.
-/
import Derived.Test.YtempkpfcjonaaaaRef09g
import Derived.Test.YtempkpfcjonaaaaTabNew
namespace Go.Proofs.Ytempkpfcjonaaaa
open Go.RowKit
set_option maxRecDepth 100000
set_option linter.unusedVariables false
set_option linter.unusedSimpArgs false

/-- Maps came to be, or not; memory has become another one. -/
def NewW (g2 : Nat) (G : Nat → Prop) (r : PM × Option TT) (w : World) (e : Ending) (w' : World) : Prop :=
  ∃ G', Turn G w w' ∧ (∀ x, G' x → G x ∨ w.heap.size ≤ x) ∧
    match r.2 with
    | none => e = .returned (.tuple #[.pointer none, .int .i64 1]) ∧ RepR w' g2 r.1 G'
    | some T => ∃ gt F', e = .returned (.tuple #[.pointer (some ⟨gt, 0, none⟩), .int .i64 0]) ∧ RepB w' gt g2 T r.1 F' G' ∧ ∀ x, F' x → w.heap.size ≤ x
/-- While maps are made: the first j of l are there. -/
structure NewS (w : World) (gt g2 : Nat) (G : Nat → Prop) (M0 : PM) (l : List Df) (j : Nat) (vl : Value) (L : List TR) (F G' : Nat → Prop) (M : PM) (u : World) : Prop where
  maps : RepT u gt g2 vl L F
  mem : RepR u g2 M G'
  apart : ∀ x, F x → ¬ G' x
  turn : Turn G w u
  foot : ∀ x, G' x → G x ∨ w.heap.size ≤ x
  new : ∀ x, F x → w.heap.size ≤ x
  len : L.length = j
  all : tNewG j (l.drop j) M (trM L) = tNewG 0 l M0 []
theorem NewS.after {w u u' : World} {gt g2 j : Nat} {G F G' : Nat → Prop} {M0 M : PM} {l : List Df} {vl : Value} {L : List TR} (h : NewS w gt g2 G M0 l j vl L F G' M u) (b : Below u.heap.size u u') : NewS w gt g2 G M0 l j vl L F G' M u' :=
  ⟨h.maps.after b, h.mem.after b, h.apart, h.turn.next b, h.foot, h.new, h.len, h.all⟩
theorem NewS.done {w u : World} {gt g2 : Nat} {G F G' : Nat → Prop} {M0 M : PM} {l : List Df} {vl : Value} {L : List TR} (h : NewS w gt g2 G M0 l l.length vl L F G' M u) (hr : tRight l = true) : NewW g2 G (tNew M0 l) w (.returned (.tuple #[.pointer (some ⟨gt, 0, none⟩), .int .i64 0])) u := by
  have e : tNew M0 l = (M, some (trM L)) := by
    unfold tNew
    rw [hr, if_pos rfl, ← h.all]
    exact tNewG_end (Nat.le_refl _)
  rw [e]
  exact ⟨G', h.turn, h.foot, gt, F, rfl, ⟨⟨vl, L, rfl, h.maps⟩, h.mem, h.apart⟩, h.new⟩
theorem newW_none {w u : World} {g2 : Nat} {G G' : Nat → Prop} {M0 M : PM} {l : List Df} (e : tNew M0 l = (M, none)) (h : RepR u g2 M G') (t : Turn G w u) (f : ∀ x, G' x → G x ∨ w.heap.size ≤ x) : NewW g2 G (tNew M0 l) w (.returned (.tuple #[.pointer none, .int .i64 1])) u := by
  rw [e]
  exact ⟨G', t, f, rfl, h⟩
/-- The first block: no map yet. -/
theorem newS_start {w u : World} {g2 : Nat} {G : Nat → Prop} {M0 : PM} {l : List Df} (h : RepR w g2 M0 G) (b : Below w.heap.size w u) (hb : Blk u.heap.size #[.pointer (some ⟨g2, 0, none⟩), .slice none 0 0] 82 (u.alloc (.cells #[.pointer (some ⟨g2, 0, none⟩), .slice none 0 0] 82))) :
    NewS w u.heap.size g2 G M0 l 0 (.slice none 0 0) [] (fun x => x = u.heap.size) G M0 (u.alloc (.cells #[.pointer (some ⟨g2, 0, none⟩), .slice none 0 0] 82)) := by
  have hs := b.size
  have tb : ∀ p x, trBlk u.heap.size (.slice none 0 0) [] p = some x → p = 0 ∧ x = u.heap.size := fun p x hx => by
    rcases trBlk_cases hx with ⟨a1, a2⟩ | ⟨a1, a2⟩ | ⟨k, hk, _⟩
    · exact ⟨a1, a2⟩
    · cases a2
    · exact absurd hk (by simp)
  refine ⟨⟨hb, World.ownsRow_nil _ 0 85 6, fun k hk => absurd hk (by simp), fun p q x hp hq => by rw [(tb p x hp).1, (tb q x hq).1], fun x => ⟨fun e => ⟨0, by rw [e]; rfl⟩, fun ⟨p, hp⟩ => (tb p x hp).2⟩, tok_nil⟩, h.after (below_alloc b _), fun x hx hG => ?_, Turn.of_below (below_alloc b _), fun x hx => .inl hx, fun x hx => by rw [hx]; exact hs, rfl, rfl⟩
  have := h.lt hG
  omega

set_option maxHeartbeats 4000000 in
theorem r9_New_no (w : World) (g2 : Nat) (M : PM) (G : Nat → Prop) (l : List Df) (A : Option Addr) (n c : Nat) (h : RepR w g2 M G) (hl : DefS w A l) (hn : l.length = n) (hc : n ≤ c) (hcm : c ≤ maxLen) (hr : tRight l = false) :
    Calls Try.prog 11 #[.pointer (some ⟨g2, 0, none⟩), .slice A n c] w (NewW g2 G (tNew M l) w) := by
  have R := Lib.hid (r9_Right w A c l hl (by omega) hcm)
  rw [hn, hr] at R
  have FIN : Hid (∀ u, Below w.heap.size w u → NewW g2 G (tNew M l) w (.returned (.tuple #[.pointer none, .int .i64 1])) u) := Lib.hid fun u b =>
    newW_none (by unfold tNew; rw [hr, if_neg Bool.false_ne_true]) (h.after b) (Turn.of_below b) (fun x hx => .inl hx)
  clear h hl hn hr
  go_enter Try.func11, Try.ntmps11
  go_wp2_with fail
  refine (R.out).mono ?_
  rintro e w1 ⟨rfl, b1⟩
  have V := Lib.hid b1
  clear b1 R
  go_wp2_with fail
  go_ret2
  exact FIN.out _ V.out

end Go.Proofs.Ytempkpfcjonaaaa
