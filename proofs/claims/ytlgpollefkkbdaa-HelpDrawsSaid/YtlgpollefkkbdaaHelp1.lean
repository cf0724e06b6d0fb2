/-
  Layer 10: what helpers are told, and tell, as plain numbers; the program's Sig, and the document's.
  Conditions: none.
-/
import Derived.Test.YtlgpollefkkbdaaTurn
import Derived.Test.YtlgpollefkkbdaaByteStr
import Derived.LoopTactic
namespace Go.Proofs.Ytlgpollefkkbdaa
open Go.RowKit
set_option maxRecDepth 100000
set_option linter.unusedVariables false
set_option linter.unusedSimpArgs false

structure Sg where
  told : List Int
  tells : Int
  draws : Bool
  most : Int
def hAll : Int := 18446744073709551615
/-- What a helper is told, and tells. -/
def hS (i : Int) : Sg :=
  if i == 1 then ⟨[1, 2], 2, false, 0⟩ else if i == 2 then ⟨[1, 2, 3, 4], 1, false, hAll⟩ else if i == 3 then ⟨[1, 2], 1, false, hAll⟩ else
  if i == 5 then ⟨[], 1, true, hAll⟩ else if i == 6 then ⟨[4, 4], 1, false, 0⟩ else if i == 7 then ⟨[], 1, true, 4294967295⟩ else if i == 8 then ⟨[], 1, true, 63⟩ else ⟨[], 0, false, 0⟩
/-- Whether there is one. -/
def hOk (i : Int) : Bool := i == 1 || (i == 2 || (i == 3 || (i == 5 || (i == 6 || (i == 7 || i == 8)))))
def sgV (s : Sg) (A : Option Addr) (c : Nat) : Value := .agg #[.slice A s.told.length c, .int .u8 s.tells, .bool s.draws, .int .u64 s.most]
/-- Told so, in a row of its own. -/
def SigW (s : Sg) (ok : Bool) (w : World) (e : Ending) (w' : World) : Prop :=
  ∃ A c, e = .returned (.tuple #[sgV s A c, .bool ok]) ∧ Below w.heap.size w w' ∧ w'.ownsRow w.heap.size 5 1 (.slice A s.told.length c) s.told.length (byC s.told)
theorem hS_ways (i : Int) : i = 1 ∨ i = 2 ∨ i = 3 ∨ i = 5 ∨ i = 6 ∨ i = 7 ∨ i = 8 ∨ ((i == 1) = false ∧ (i == 2) = false ∧ (i == 3) = false ∧ (i == 5) = false ∧ (i == 6) = false ∧ (i == 7) = false ∧ (i == 8) = false) := by
  simp only [beq_eq_false_iff_ne]
  omega
theorem hS_none {i : Int} (h : (i == 1) = false ∧ (i == 2) = false ∧ (i == 3) = false ∧ (i == 5) = false ∧ (i == 6) = false ∧ (i == 7) = false ∧ (i == 8) = false) : hS i = ⟨[], 0, false, 0⟩ ∧ hOk i = false := by
  obtain ⟨h1, h2, h3, h5, h6, h7, h8⟩ := h
  simp [hS, hOk, h1, h2, h3, h5, h6, h7, h8]
theorem own_none_ (w : World) (base : Nat) (e : TypeId) : w.ownsRow base e 1 (.slice none 0 0) 0 [] := ⟨by simp, .inl ⟨rfl, rfl⟩⟩

theorem sig_row (w : World) (C : Obj) (cs : Array Value) (n : Nat) (hn : cs.size = n) (hm : n ≤ maxLen) :
    ((w.alloc C).alloc (.cells cs 5)).ownsRow w.heap.size 5 1 (.slice (some ⟨w.heap.size + 1, 0, none⟩) n n) n cs.toList := by
  refine ⟨by simp [hn], .inr ⟨w.heap.size + 1, n, cs, rfl, by omega, ?_, Nat.le_refl _, hm, by omega, ?_⟩⟩
  · exact Blk.new (w.alloc C) cs 5 (by simp)
  · rw [List.take_of_length_le (by simp [hn])]
theorem Blk.four {g : Nat} {a b c d : Value} {t : TypeId} {w : World} (h : Blk g #[a, b, c, d] t w) :
    (w.cell? ⟨g, 0, none⟩ = some a ∧ w.cell? ⟨g, 1, none⟩ = some b ∧ w.cell? ⟨g, 2, none⟩ = some c ∧ w.cell? ⟨g, 3, none⟩ = some d) ∧
    (w.frozen? ⟨g, 0, none⟩ = false ∧ w.frozen? ⟨g, 1, none⟩ = false ∧ w.frozen? ⟨g, 2, none⟩ = false ∧ w.frozen? ⟨g, 3, none⟩ = false) :=
  ⟨⟨Blk.cell h 0, Blk.cell h 1, Blk.cell h 2, Blk.cell h 3⟩, Blk.free h 0, Blk.free h 1, Blk.free h 2, Blk.free h 3⟩
/-- Four cells, stored. -/
def four (w : World) (g : Nat) (a b c d : Value) : World := (((w.setCell ⟨g, 0, none⟩ a).setCell ⟨g, 1, none⟩ b).setCell ⟨g, 2, none⟩ c).setCell ⟨g, 3, none⟩ d
theorem four_below {w0 w : World} {B g : Nat} (h : Below B w0 w) (hg : B ≤ g) (a b c d : Value) : Below B w0 (four w g a b c d) :=
  (((h.setCell hg a).setCell hg b).setCell hg c).setCell hg d
theorem four_blk {w : World} {g : Nat} {a0 b0 c0 d0 : Value} {t : TypeId} (h : Blk g #[a0, b0, c0, d0] t w) (a b c d : Value) : Blk g #[a, b, c, d] t (four w g a b c d) :=
  (((Blk.set h 0 a).set 1 b).set 2 c).set 3 d
set_option maxHeartbeats 2000000 in
theorem h10_drawn (m : Int) (w : World) : Calls Try.prog 17 #[.int .u64 m] w (Gives (.agg #[.slice none 0 0, .int .u8 1, .bool true, .int .u64 m]) w) := by
  have Z0 := Lib.hid (Blk.new w #[.slice none 0 0, .int .u8 1, .bool true, .int .u64 m] 26 rfl)
  have B0 := Lib.hid (below_alloc (Below.refl w.heap.size w) (.cells #[.slice none 0 0, .int .u8 1, .bool true, .int .u64 m] 26))
  go_enter Try.func17, Try.ntmps17
  go_wp2_with fail
  obtain ⟨⟨r0, r1, r2, r3⟩, -⟩ := Blk.four Z0.out
  exact bodyPost_ret (v := .agg #[.slice none 0 0, .int .u8 1, .bool true, .int .u64 m]) (by simp [results, Try.results17, go_sem, r0, r1, r2, r3]) rfl ⟨rfl, B0.out⟩

-- HERE
set_option maxHeartbeats 4000000 in
theorem h10_Sig (i : Int) (w : World) : Calls Try.prog 8 #[.int .i64 i] w (SigW (hS i) (hOk i) w) := by
  rcases hS_ways i with rfl | rfl | rfl | rfl | rfl | rfl | rfl | h
  · show Calls _ _ _ _ (SigW ⟨[1, 2], 2, false, 0⟩ true w)
    have Z0 := Lib.hid (Blk.new w #[.slice (some ⟨w.heap.size + 1, 0, none⟩) 2 2, .int .u8 2, .bool false, .int .u64 0] 26 rfl)
    have B0 := Lib.hid (below_alloc (Below.refl w.heap.size w) (.cells #[.slice (some ⟨w.heap.size + 1, 0, none⟩) 2 2, .int .u8 2, .bool false, .int .u64 0] 26))
    go_enter Try.func8, Try.ntmps8
    go_wp2_with fail
    have Z := Z0.out.after (below_alloc (Below.refl _ _) (.cells #[.int .u8 1, .int .u8 2] 5))
    obtain ⟨⟨r0, r1, r2, r3⟩, -⟩ := Blk.four Z
    exact bodyPost_ret (v := .tuple #[sgV ⟨[1, 2], 2, false, 0⟩ (some ⟨w.heap.size + 1, 0, none⟩) 2, .bool true]) (by simp [results, Try.results8, go_sem, r0, r1, r2, r3]; rfl) rfl ⟨_, _, rfl, below_alloc B0.out _, sig_row w _ #[.int .u8 1, .int .u8 2] 2 rfl (by decide)⟩
  · show Calls _ _ _ _ (SigW ⟨[1, 2, 3, 4], 1, false, 18446744073709551615⟩ true w)
    have Z0 := Lib.hid (Blk.new w #[.slice (some ⟨w.heap.size + 1, 0, none⟩) 4 4, .int .u8 1, .bool false, .int .u64 18446744073709551615] 26 rfl)
    have B0 := Lib.hid (below_alloc (Below.refl w.heap.size w) (.cells #[.slice (some ⟨w.heap.size + 1, 0, none⟩) 4 4, .int .u8 1, .bool false, .int .u64 18446744073709551615] 26))
    go_enter Try.func8, Try.ntmps8
    go_wp2_with fail
    have Z := Z0.out.after (below_alloc (Below.refl _ _) (.cells #[.int .u8 1, .int .u8 2, .int .u8 3, .int .u8 4] 5))
    obtain ⟨⟨r0, r1, r2, r3⟩, -⟩ := Blk.four Z
    exact bodyPost_ret (v := .tuple #[sgV ⟨[1, 2, 3, 4], 1, false, 18446744073709551615⟩ (some ⟨w.heap.size + 1, 0, none⟩) 4, .bool true]) (by simp [results, Try.results8, go_sem, r0, r1, r2, r3]; rfl) rfl ⟨_, _, rfl, below_alloc B0.out _, sig_row w _ #[.int .u8 1, .int .u8 2, .int .u8 3, .int .u8 4] 4 rfl (by decide)⟩
  · show Calls _ _ _ _ (SigW ⟨[1, 2], 1, false, 18446744073709551615⟩ true w)
    have Z0 := Lib.hid (Blk.new w #[.slice (some ⟨w.heap.size + 1, 0, none⟩) 2 2, .int .u8 1, .bool false, .int .u64 18446744073709551615] 26 rfl)
    have B0 := Lib.hid (below_alloc (Below.refl w.heap.size w) (.cells #[.slice (some ⟨w.heap.size + 1, 0, none⟩) 2 2, .int .u8 1, .bool false, .int .u64 18446744073709551615] 26))
    go_enter Try.func8, Try.ntmps8
    go_wp2_with fail
    have Z := Z0.out.after (below_alloc (Below.refl _ _) (.cells #[.int .u8 1, .int .u8 2] 5))
    obtain ⟨⟨r0, r1, r2, r3⟩, -⟩ := Blk.four Z
    exact bodyPost_ret (v := .tuple #[sgV ⟨[1, 2], 1, false, 18446744073709551615⟩ (some ⟨w.heap.size + 1, 0, none⟩) 2, .bool true]) (by simp [results, Try.results8, go_sem, r0, r1, r2, r3]; rfl) rfl ⟨_, _, rfl, below_alloc B0.out _, sig_row w _ #[.int .u8 1, .int .u8 2] 2 rfl (by decide)⟩
  · show Calls _ _ _ _ (SigW ⟨[], 1, true, 18446744073709551615⟩ true w)
    have Z0 := Lib.hid (Blk.new w #[.slice none 0 0, .int .u8 1, .bool true, .int .u64 18446744073709551615] 26 rfl)
    have B0 := Lib.hid (below_alloc (Below.refl w.heap.size w) (.cells #[.slice none 0 0, .int .u8 1, .bool true, .int .u64 18446744073709551615] 26))
    have ZZ := Lib.hid (Blk.new w #[.slice none 0 0, .int .u8 0, .bool false, .int .u64 0] 26 rfl)
    have BB := Lib.hid (below_alloc (Below.refl w.heap.size w) (.cells #[.slice none 0 0, .int .u8 0, .bool false, .int .u64 0] 26))
    have HD := Lib.hid fun m u => h10_drawn m u
    go_enter Try.func8, Try.ntmps8
    go_wp2_with fail
    refine (HD.out _ _).mono ?_
    rintro e w1 ⟨rfl, b1⟩
    have V := Lib.hid (below_next' BB.out b1)
    have ZY := Lib.hid (ZZ.out.after b1)
    obtain ⟨⟨z0, z1, z2, z3⟩, y0, y1, y2, y3⟩ := Blk.four ZY.out
    clear b1
    generalize hgr : w.heap.size = ρ at *
    go_wp2_with fail
    have R := four_blk ZY.out (.slice none 0 0) (.int .u8 1) (.bool true) (.int .u64 18446744073709551615)
    have RB := four_below V.out (Nat.le_refl _) (.slice none 0 0) (.int .u8 1) (.bool true) (.int .u64 18446744073709551615)
    obtain ⟨⟨r0, r1, r2, r3⟩, -⟩ := Blk.four R
    unfold four at r0 r1 r2 r3 RB
    exact bodyPost_ret (v := .tuple #[sgV ⟨[], 1, true, 18446744073709551615⟩ none 0, .bool true]) (by simp [results, Try.results8, go_sem, r0, r1, r2, r3]; rfl) rfl ⟨none, 0, rfl, by rw [hgr]; exact RB, by rw [hgr]; exact own_none_ _ _ _⟩
  · show Calls _ _ _ _ (SigW ⟨[4, 4], 1, false, 0⟩ true w)
    have Z0 := Lib.hid (Blk.new w #[.slice (some ⟨w.heap.size + 1, 0, none⟩) 2 2, .int .u8 1, .bool false, .int .u64 0] 26 rfl)
    have B0 := Lib.hid (below_alloc (Below.refl w.heap.size w) (.cells #[.slice (some ⟨w.heap.size + 1, 0, none⟩) 2 2, .int .u8 1, .bool false, .int .u64 0] 26))
    go_enter Try.func8, Try.ntmps8
    go_wp2_with fail
    have Z := Z0.out.after (below_alloc (Below.refl _ _) (.cells #[.int .u8 4, .int .u8 4] 5))
    obtain ⟨⟨r0, r1, r2, r3⟩, -⟩ := Blk.four Z
    exact bodyPost_ret (v := .tuple #[sgV ⟨[4, 4], 1, false, 0⟩ (some ⟨w.heap.size + 1, 0, none⟩) 2, .bool true]) (by simp [results, Try.results8, go_sem, r0, r1, r2, r3]; rfl) rfl ⟨_, _, rfl, below_alloc B0.out _, sig_row w _ #[.int .u8 4, .int .u8 4] 2 rfl (by decide)⟩
  · show Calls _ _ _ _ (SigW ⟨[], 1, true, 4294967295⟩ true w)
    have Z0 := Lib.hid (Blk.new w #[.slice none 0 0, .int .u8 1, .bool true, .int .u64 4294967295] 26 rfl)
    have B0 := Lib.hid (below_alloc (Below.refl w.heap.size w) (.cells #[.slice none 0 0, .int .u8 1, .bool true, .int .u64 4294967295] 26))
    have ZZ := Lib.hid (Blk.new w #[.slice none 0 0, .int .u8 0, .bool false, .int .u64 0] 26 rfl)
    have BB := Lib.hid (below_alloc (Below.refl w.heap.size w) (.cells #[.slice none 0 0, .int .u8 0, .bool false, .int .u64 0] 26))
    have HD := Lib.hid fun m u => h10_drawn m u
    go_enter Try.func8, Try.ntmps8
    go_wp2_with fail
    refine (HD.out _ _).mono ?_
    rintro e w1 ⟨rfl, b1⟩
    have V := Lib.hid (below_next' BB.out b1)
    have ZY := Lib.hid (ZZ.out.after b1)
    obtain ⟨⟨z0, z1, z2, z3⟩, y0, y1, y2, y3⟩ := Blk.four ZY.out
    clear b1
    generalize hgr : w.heap.size = ρ at *
    go_wp2_with fail
    have R := four_blk ZY.out (.slice none 0 0) (.int .u8 1) (.bool true) (.int .u64 4294967295)
    have RB := four_below V.out (Nat.le_refl _) (.slice none 0 0) (.int .u8 1) (.bool true) (.int .u64 4294967295)
    obtain ⟨⟨r0, r1, r2, r3⟩, -⟩ := Blk.four R
    unfold four at r0 r1 r2 r3 RB
    exact bodyPost_ret (v := .tuple #[sgV ⟨[], 1, true, 4294967295⟩ none 0, .bool true]) (by simp [results, Try.results8, go_sem, r0, r1, r2, r3]; rfl) rfl ⟨none, 0, rfl, by rw [hgr]; exact RB, by rw [hgr]; exact own_none_ _ _ _⟩
  · show Calls _ _ _ _ (SigW ⟨[], 1, true, 63⟩ true w)
    have Z0 := Lib.hid (Blk.new w #[.slice none 0 0, .int .u8 1, .bool true, .int .u64 63] 26 rfl)
    have B0 := Lib.hid (below_alloc (Below.refl w.heap.size w) (.cells #[.slice none 0 0, .int .u8 1, .bool true, .int .u64 63] 26))
    have ZZ := Lib.hid (Blk.new w #[.slice none 0 0, .int .u8 0, .bool false, .int .u64 0] 26 rfl)
    have BB := Lib.hid (below_alloc (Below.refl w.heap.size w) (.cells #[.slice none 0 0, .int .u8 0, .bool false, .int .u64 0] 26))
    have HD := Lib.hid fun m u => h10_drawn m u
    go_enter Try.func8, Try.ntmps8
    go_wp2_with fail
    refine (HD.out _ _).mono ?_
    rintro e w1 ⟨rfl, b1⟩
    have V := Lib.hid (below_next' BB.out b1)
    have ZY := Lib.hid (ZZ.out.after b1)
    obtain ⟨⟨z0, z1, z2, z3⟩, y0, y1, y2, y3⟩ := Blk.four ZY.out
    clear b1
    generalize hgr : w.heap.size = ρ at *
    go_wp2_with fail
    have R := four_blk ZY.out (.slice none 0 0) (.int .u8 1) (.bool true) (.int .u64 63)
    have RB := four_below V.out (Nat.le_refl _) (.slice none 0 0) (.int .u8 1) (.bool true) (.int .u64 63)
    obtain ⟨⟨r0, r1, r2, r3⟩, -⟩ := Blk.four R
    unfold four at r0 r1 r2 r3 RB
    exact bodyPost_ret (v := .tuple #[sgV ⟨[], 1, true, 63⟩ none 0, .bool true]) (by simp [results, Try.results8, go_sem, r0, r1, r2, r3]; rfl) rfl ⟨none, 0, rfl, by rw [hgr]; exact RB, by rw [hgr]; exact own_none_ _ _ _⟩
  · obtain ⟨e1, e2⟩ := hS_none h
    rw [e1, e2]
    clear e1 e2
    obtain ⟨h1, h2, h3, h5, h6, h7, h8⟩ := h
    have Z0 := Lib.hid (Blk.new w #[.slice none 0 0, .int .u8 0, .bool false, .int .u64 0] 26 rfl)
    have B0 := Lib.hid (below_alloc (Below.refl w.heap.size w) (.cells #[.slice none 0 0, .int .u8 0, .bool false, .int .u64 0] 26))
    go_enter Try.func8, Try.ntmps8
    go_wp2_with fail
    have Z := Z0.out
    obtain ⟨⟨r0, r1, r2, r3⟩, -⟩ := Blk.four Z
    exact bodyPost_ret (v := .tuple #[sgV ⟨[], 0, false, 0⟩ none 0, .bool false]) (by simp [results, Try.results8, go_sem, r0, r1, r2, r3]; rfl) rfl ⟨none, 0, rfl, B0.out, own_none_ _ _ _⟩

set_option maxHeartbeats 4000000 in
theorem r10_Sig (i : Int) (w : World) : Calls Try.prog 9 #[.int .i64 i] w (SigW (hS i) (hOk i) w) := by
  rcases hS_ways i with rfl | rfl | rfl | rfl | rfl | rfl | rfl | h
  · show Calls _ _ _ _ (SigW ⟨[1, 2], 2, false, 0⟩ true w)
    have Z0 := Lib.hid (Blk.new w #[.slice (some ⟨w.heap.size + 1, 0, none⟩) 2 2, .int .u8 2, .bool false, .int .u64 0] 26 rfl)
    have B0 := Lib.hid (below_alloc (Below.refl w.heap.size w) (.cells #[.slice (some ⟨w.heap.size + 1, 0, none⟩) 2 2, .int .u8 2, .bool false, .int .u64 0] 26))
    go_enter Try.func9, Try.ntmps9
    go_wp2_with fail
    have Z := Z0.out.after (below_alloc (Below.refl _ _) (.cells #[.int .u8 1, .int .u8 2] 5))
    obtain ⟨⟨r0, r1, r2, r3⟩, -⟩ := Blk.four Z
    exact bodyPost_ret (v := .tuple #[sgV ⟨[1, 2], 2, false, 0⟩ (some ⟨w.heap.size + 1, 0, none⟩) 2, .bool true]) (by simp [results, Try.results9, go_sem, r0, r1, r2, r3]; rfl) rfl ⟨_, _, rfl, below_alloc B0.out _, sig_row w _ #[.int .u8 1, .int .u8 2] 2 rfl (by decide)⟩
  · show Calls _ _ _ _ (SigW ⟨[1, 2, 3, 4], 1, false, 18446744073709551615⟩ true w)
    have Z0 := Lib.hid (Blk.new w #[.slice (some ⟨w.heap.size + 1, 0, none⟩) 4 4, .int .u8 1, .bool false, .int .u64 18446744073709551615] 26 rfl)
    have B0 := Lib.hid (below_alloc (Below.refl w.heap.size w) (.cells #[.slice (some ⟨w.heap.size + 1, 0, none⟩) 4 4, .int .u8 1, .bool false, .int .u64 18446744073709551615] 26))
    go_enter Try.func9, Try.ntmps9
    go_wp2_with fail
    have Z := Z0.out.after (below_alloc (Below.refl _ _) (.cells #[.int .u8 1, .int .u8 2, .int .u8 3, .int .u8 4] 5))
    obtain ⟨⟨r0, r1, r2, r3⟩, -⟩ := Blk.four Z
    exact bodyPost_ret (v := .tuple #[sgV ⟨[1, 2, 3, 4], 1, false, 18446744073709551615⟩ (some ⟨w.heap.size + 1, 0, none⟩) 4, .bool true]) (by simp [results, Try.results9, go_sem, r0, r1, r2, r3]; rfl) rfl ⟨_, _, rfl, below_alloc B0.out _, sig_row w _ #[.int .u8 1, .int .u8 2, .int .u8 3, .int .u8 4] 4 rfl (by decide)⟩
  · show Calls _ _ _ _ (SigW ⟨[1, 2], 1, false, 18446744073709551615⟩ true w)
    have Z0 := Lib.hid (Blk.new w #[.slice (some ⟨w.heap.size + 1, 0, none⟩) 2 2, .int .u8 1, .bool false, .int .u64 18446744073709551615] 26 rfl)
    have B0 := Lib.hid (below_alloc (Below.refl w.heap.size w) (.cells #[.slice (some ⟨w.heap.size + 1, 0, none⟩) 2 2, .int .u8 1, .bool false, .int .u64 18446744073709551615] 26))
    go_enter Try.func9, Try.ntmps9
    go_wp2_with fail
    have Z := Z0.out.after (below_alloc (Below.refl _ _) (.cells #[.int .u8 1, .int .u8 2] 5))
    obtain ⟨⟨r0, r1, r2, r3⟩, -⟩ := Blk.four Z
    exact bodyPost_ret (v := .tuple #[sgV ⟨[1, 2], 1, false, 18446744073709551615⟩ (some ⟨w.heap.size + 1, 0, none⟩) 2, .bool true]) (by simp [results, Try.results9, go_sem, r0, r1, r2, r3]; rfl) rfl ⟨_, _, rfl, below_alloc B0.out _, sig_row w _ #[.int .u8 1, .int .u8 2] 2 rfl (by decide)⟩
  · show Calls _ _ _ _ (SigW ⟨[], 1, true, 18446744073709551615⟩ true w)
    have Z0 := Lib.hid (Blk.new w #[.slice none 0 0, .int .u8 1, .bool true, .int .u64 18446744073709551615] 26 rfl)
    have B0 := Lib.hid (below_alloc (Below.refl w.heap.size w) (.cells #[.slice none 0 0, .int .u8 1, .bool true, .int .u64 18446744073709551615] 26))
    go_enter Try.func9, Try.ntmps9
    go_wp2_with fail
    have Z := Z0.out
    obtain ⟨⟨r0, r1, r2, r3⟩, -⟩ := Blk.four Z
    exact bodyPost_ret (v := .tuple #[sgV ⟨[], 1, true, 18446744073709551615⟩ none 0, .bool true]) (by simp [results, Try.results9, go_sem, r0, r1, r2, r3]; rfl) rfl ⟨none, 0, rfl, B0.out, own_none_ _ _ _⟩
  · show Calls _ _ _ _ (SigW ⟨[4, 4], 1, false, 0⟩ true w)
    have Z0 := Lib.hid (Blk.new w #[.slice (some ⟨w.heap.size + 1, 0, none⟩) 2 2, .int .u8 1, .bool false, .int .u64 0] 26 rfl)
    have B0 := Lib.hid (below_alloc (Below.refl w.heap.size w) (.cells #[.slice (some ⟨w.heap.size + 1, 0, none⟩) 2 2, .int .u8 1, .bool false, .int .u64 0] 26))
    go_enter Try.func9, Try.ntmps9
    go_wp2_with fail
    have Z := Z0.out.after (below_alloc (Below.refl _ _) (.cells #[.int .u8 4, .int .u8 4] 5))
    obtain ⟨⟨r0, r1, r2, r3⟩, -⟩ := Blk.four Z
    exact bodyPost_ret (v := .tuple #[sgV ⟨[4, 4], 1, false, 0⟩ (some ⟨w.heap.size + 1, 0, none⟩) 2, .bool true]) (by simp [results, Try.results9, go_sem, r0, r1, r2, r3]; rfl) rfl ⟨_, _, rfl, below_alloc B0.out _, sig_row w _ #[.int .u8 4, .int .u8 4] 2 rfl (by decide)⟩
  · show Calls _ _ _ _ (SigW ⟨[], 1, true, 4294967295⟩ true w)
    have Z0 := Lib.hid (Blk.new w #[.slice none 0 0, .int .u8 1, .bool true, .int .u64 4294967295] 26 rfl)
    have B0 := Lib.hid (below_alloc (Below.refl w.heap.size w) (.cells #[.slice none 0 0, .int .u8 1, .bool true, .int .u64 4294967295] 26))
    go_enter Try.func9, Try.ntmps9
    go_wp2_with fail
    have Z := Z0.out
    obtain ⟨⟨r0, r1, r2, r3⟩, -⟩ := Blk.four Z
    exact bodyPost_ret (v := .tuple #[sgV ⟨[], 1, true, 4294967295⟩ none 0, .bool true]) (by simp [results, Try.results9, go_sem, r0, r1, r2, r3]; rfl) rfl ⟨none, 0, rfl, B0.out, own_none_ _ _ _⟩
  · show Calls _ _ _ _ (SigW ⟨[], 1, true, 63⟩ true w)
    have Z0 := Lib.hid (Blk.new w #[.slice none 0 0, .int .u8 1, .bool true, .int .u64 63] 26 rfl)
    have B0 := Lib.hid (below_alloc (Below.refl w.heap.size w) (.cells #[.slice none 0 0, .int .u8 1, .bool true, .int .u64 63] 26))
    go_enter Try.func9, Try.ntmps9
    go_wp2_with fail
    have Z := Z0.out
    obtain ⟨⟨r0, r1, r2, r3⟩, -⟩ := Blk.four Z
    exact bodyPost_ret (v := .tuple #[sgV ⟨[], 1, true, 63⟩ none 0, .bool true]) (by simp [results, Try.results9, go_sem, r0, r1, r2, r3]; rfl) rfl ⟨none, 0, rfl, B0.out, own_none_ _ _ _⟩
  · obtain ⟨e1, e2⟩ := hS_none h
    rw [e1, e2]
    clear e1 e2
    obtain ⟨h1, h2, h3, h5, h6, h7, h8⟩ := h
    have Z0 := Lib.hid (Blk.new w #[.slice none 0 0, .int .u8 0, .bool false, .int .u64 0] 26 rfl)
    have B0 := Lib.hid (below_alloc (Below.refl w.heap.size w) (.cells #[.slice none 0 0, .int .u8 0, .bool false, .int .u64 0] 26))
    go_enter Try.func9, Try.ntmps9
    go_wp2_with fail
    have Z := Z0.out
    obtain ⟨⟨r0, r1, r2, r3⟩, -⟩ := Blk.four Z
    exact bodyPost_ret (v := .tuple #[sgV ⟨[], 0, false, 0⟩ none 0, .bool false]) (by simp [results, Try.results9, go_sem, r0, r1, r2, r3]; rfl) rfl ⟨none, 0, rfl, B0.out, own_none_ _ _ _⟩

end Go.Proofs.Ytlgpollefkkbdaa
