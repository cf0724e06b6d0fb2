/-
  Texts, one behind the other: Fact5, Fact6, FactWays, Byt, MemPlain, Turn, Areas, TabPlain, ValPlain, Leaf, Frame, Base, FactOpen, ValUse, Val1.
  Conditions: those that each theorem states.
-/
import Derived.Deep.RegionHeld3
import Derived.Test.YtgjcbcpedoihaaaMg5
import Derived.Test.YtgjcbcpedoihaaaMg4
import Derived.LoopTactic
import Derived.StillTailTactics
import Derived.Deep.RegionWith
import Derived.Laws.Externs
import Derived.Shelf.Bits.Mul64
import Derived.Test.YtgjcbcpedoihaaaMg2
import Derived.Test.YtgjcbcpedoihaaaMg1
import Derived.Laws.OwnMore
import Derived.Laws.MakeOwn
import Derived.Deep.AppendLies
import Derived.Maps.AppendAt
import Derived.OwnWalk
import Derived.Laws.BitsAllLaws
import Derived.Laws.BytesArg
import Derived.Lib.Strings
import Derived.WalkKit
import Derived.ProofKit
import Derived.OpenShut
import Derived.Test.YtgjcbcpedoihaaaRows
import Derived.ChangeOld
import Derived.Below
import Derived.Carry

namespace Go.Proofs.Ytgjcbcpedoihaaa
open Go.RowKit
set_option maxRecDepth 100000
set_option linter.unusedVariables false

/-- A new block of a fact. -/
def nB (g : Nat) (w : World) : Prop := Blk g #[.int .u64 0, .int .u64 0, .int .u64 0, .int .u64 0] 28 w
theorem nB.after {g : Nat} {w w' : World} (h : nB g w) (b : Below w.heap.size w w') : nB g w' := Blk.after h b
theorem nB.made {w w' : World} (b : Below (w.alloc (.cells #[.int .u64 0, .int .u64 0, .int .u64 0, .int .u64 0] 28)).heap.size (w.alloc (.cells #[.int .u64 0, .int .u64 0, .int .u64 0, .int .u64 0] 28)) w') : nB w.heap.size w' := nB.after (Blk.new w _ _ rfl) b
theorem nB.cells {g : Nat} {w : World} (h : nB g w) : w.cell? ⟨g, 0, none⟩ = some (.int .u64 0) ∧ w.cell? ⟨g, 1, none⟩ = some (.int .u64 0) ∧ w.cell? ⟨g, 2, none⟩ = some (.int .u64 0) ∧ w.cell? ⟨g, 3, none⟩ = some (.int .u64 0) :=
  ⟨Blk.cell h 0, Blk.cell h 1, Blk.cell h 2, Blk.cell h 3⟩
theorem nB.free {g : Nat} {w : World} (h : nB g w) : w.frozen? ⟨g, 0, none⟩ = false ∧ w.frozen? ⟨g, 1, none⟩ = false ∧ w.frozen? ⟨g, 2, none⟩ = false ∧ w.frozen? ⟨g, 3, none⟩ = false :=
  ⟨Blk.free h 0, Blk.free h 1, Blk.free h 2, Blk.free h 3⟩
theorem FTri.alloc {a b r : Fc} {w u : World} (h : FTri a b r w u) (o : Obj) : FTri a b r w (u.alloc o) := h.after (below_alloc (Below.refl _ _) o)
theorem FTri.far {a b r : Fc} {w u : World} {k : Nat} (h : FTri a b r w u) (hk : w.heap.size + 1 + 1 < k) (s : Fc) :
    FTri a b r w ((((u.setCell ⟨k, 0, none⟩ (uV s.1.1)).setCell ⟨k, 1, none⟩ (uV s.1.2)).setCell ⟨k, 2, none⟩ (.int .u64 s.2.1)).setCell ⟨k, 3, none⟩ (.int .u64 s.2.2)) :=
  ⟨⟨below_four h.1.1 (by omega) s, h.1.2.1.others (by omega), h.1.2.2.others (by omega)⟩, h.2.others (by omega)⟩
theorem nB.fB {g : Nat} {w : World} (h : nB g w) : fB g fZ w := h

set_option maxRecDepth 100000 in
set_option maxHeartbeats 4000000 in
theorem fp_join_run (a b : Fc) (t : Tn) (s : Sp) (g : Fc) (k : Bool) (w : World)
    (R1 : Hid (∀ w, Calls Try.prog 48 #[fV a, fV b] w (Gives (.bool true) w)))
    (J1 : Hid (∀ w, Calls Try.prog 53 #[tV a.1, tV b.1] w (Gives (tV t) w)))
    (J2 : Hid (∀ w, Calls Try.prog 54 #[sV a.2, sV b.2] w (Gives (sV s) w)))
    (S : Hid (∀ w, Calls Try.prog 41 #[fV (t, s)] w (Gives (fBV g k) w))) :
    Calls Try.prog 37 #[fV a, fV b] w (Gives (fV g) w) := by
  have hx := Lib.hid (FTri.new a b fZ w)
  go_enter Try.func37, Try.ntmps37
  go_wp2_with fail
  refine (R1.out _).mono ?_; rintro e w1 ⟨rfl, b1⟩
  have X2 := Lib.hid (hx.out.after b1)
  clear hx b1
  go_wp2_with fail
  generalize w1 = w2 at *
  have HB : Below w2.heap.size w2 w2.drew := Below.drew (Below.refl _ _)
  have KK := Lib.hid (fun (wx : World) (hx : Below w2.heap.size w2 wx) => And.intro (X2.out.after hx).1.2.1.cells (X2.out.after hx).1.2.2.cells)
  have HA : Below w2.heap.size w2 ((w2.alloc (.cells #[.int .u64 0, .int .u64 0, .int .u64 0, .int .u64 0] 28)).drew) := Below.drew (below_alloc (Below.refl _ _) _)
  have z1 := X2.out.2.lt
  go_region_held3 (fun w' => (w'.cell? ⟨w.heap.size, 0, none⟩ = some (uV a.1.1) ∧ w'.cell? ⟨w.heap.size, 1, none⟩ = some (uV a.1.2) ∧ w'.cell? ⟨w.heap.size, 2, none⟩ = some (.int .u64 a.2.1) ∧ w'.cell? ⟨w.heap.size, 3, none⟩ = some (.int .u64 a.2.2)) ∧
      w'.cell? ⟨w.heap.size + 1, 0, none⟩ = some (uV b.1.1) ∧ w'.cell? ⟨w.heap.size + 1, 1, none⟩ = some (uV b.1.2) ∧ w'.cell? ⟨w.heap.size + 1, 2, none⟩ = some (.int .u64 b.2.1) ∧ w'.cell? ⟨w.heap.size + 1, 3, none⟩ = some (.int .u64 b.2.2))
    (first
      | exact KK.out _ HB
      | exact KK.out _ (Below.drew HB)
      | exact KK.out _ (below_alloc HB _)
      | exact KK.out _ (Below.drew (below_alloc HB _))
      | exact KK.out _ (below_alloc (Below.drew HB) _)
      | exact KK.out _ (below_four HB (by omega) g)
      | exact KK.out _ HA)
    (first
      | (go_at_call 53; refine (J1.out _).mono ?_; rintro e w6 ⟨rfl, hb6⟩;
         (first | have TB := nB.made hb6 | have TB := (show nB w2.heap.size w6 from nB.made (w := w2.drew) hb6) | skip);
         (first | replace HB := below_next' HB hb6 | replace HB := below_next' (below_alloc HB _) hb6); clear hb6; have n6 := HB.size)
      | (go_at_call 54; refine (J2.out _).mono ?_; rintro e w8 ⟨rfl, hb8⟩;
         (first | replace TB := nB.after TB hb8 | have TB := nB.made hb8 | skip);
         (first | replace HB := below_next' HB hb8 | replace HB := below_next' (below_alloc HB _) hb8); clear hb8; have n8 := HB.size)
      | (go_at_call 41; refine (S.out _).mono ?_; rintro e w7 ⟨rfl, hb7⟩;
         (first | replace TB := nB.after TB hb7 | have TB := nB.made hb7 | skip);
         (first | replace HB := below_next' HB hb7 | replace HB := below_next' (below_alloc HB _) hb7); clear hb7; have n7 := HB.size; (try obtain ⟨t0, t1, t2, t3⟩ := TB.cells); (try obtain ⟨f0, f1, f2, f3⟩ := TB.free)))
  all_goals
    rename_i hh
    clear hh
    have x7 := X2.out.after HB
    first
      | (have TU := Lib.hid (fB.set (show fB w8.heap.size fZ w7 from TB) g)
         have XU := Lib.hid (x7.far (k := w8.heap.size) (by omega) g)
         clear TB HB KK HA x7
         generalize w8.heap.size = gt at *
         generalize (World.setCell (World.setCell (World.setCell (World.setCell w7 ⟨gt, 0, none⟩ (uV g.1.1)) ⟨gt, 1, none⟩ (uV g.1.2)) ⟨gt, 2, none⟩ (.int .u64 g.2.1)) ⟨gt, 3, none⟩ (.int .u64 g.2.2)) = u at TU XU ⊢)
      | (have TU := Lib.hid (fB.set (show fB w6.heap.size fZ w7 from TB) g)
         have XU := Lib.hid (x7.far (k := w6.heap.size) (by omega) g)
         clear TB HB KK HA x7
         generalize w6.heap.size = gt at *
         generalize (World.setCell (World.setCell (World.setCell (World.setCell w7 ⟨gt, 0, none⟩ (uV g.1.1)) ⟨gt, 1, none⟩ (uV g.1.2)) ⟨gt, 2, none⟩ (.int .u64 g.2.1)) ⟨gt, 3, none⟩ (.int .u64 g.2.2)) = u at TU XU ⊢)
      | (have TU := Lib.hid (fB.set (show fB w2.heap.size fZ w7 from TB) g)
         have XU := Lib.hid (x7.far (k := w2.heap.size) (by omega) g)
         clear TB HB KK HA x7
         generalize w2.heap.size = gt at *
         generalize (World.setCell (World.setCell (World.setCell (World.setCell w7 ⟨gt, 0, none⟩ (uV g.1.1)) ⟨gt, 1, none⟩ (uV g.1.2)) ⟨gt, 2, none⟩ (.int .u64 g.2.1)) ⟨gt, 3, none⟩ (.int .u64 g.2.2)) = u at TU XU ⊢)
      | (have TU := Lib.hid (fB.new w7 g rfl)
         have XU := Lib.hid (x7.alloc (.cells (fCells g) 28))
         clear HB KK HA x7
         generalize w7.heap.size = gt at *
         generalize World.alloc w7 (.cells (fCells g) 28) = u at TU XU ⊢)
    all_goals
      clear X2
      obtain ⟨u0, u1, u2, u3⟩ := TU.out.cells
      obtain ⟨e0, e1, e2, e3⟩ := XU.out.2.cells
      obtain ⟨g0, g1, g2, g3⟩ := XU.out.2.free
      have XE := Lib.hid (XU.out.set g)
      clear XU TU
      go_wp2_with fail
      exact bodyPost_ret (v := fV g) (by simp [results, Try.results37, go_sem, e0, e1, e2, e3]) rfl ⟨rfl, XE.out.1.1⟩

end Go.Proofs.Ytgjcbcpedoihaaa

namespace Go.Proofs.Ytgjcbcpedoihaaa
open Go.RowKit
set_option maxRecDepth 100000
set_option linter.unusedVariables false

set_option maxHeartbeats 2000000 in
theorem fp_join (a b : Fc) (w : World) (ha : fIn a) (hb : fIn b) : Calls Try.prog 37 #[fV a, fV b] w (Gives (fV (fJ a b)) w) := by
  have R1 := Lib.hid fun w => fp_both a b w ha hb
  have J1 := Lib.hid (join_says a.1 b.1)
  have J2 := Lib.hid (sjoin_says a.2 b.2)
  have S := Lib.hid fun w => fp_settle (tJ a.1 b.1, sJ a.2 b.2) w (sJ_in ha hb)
  unfold fJ
  cases h1 : (fR a && fR b)
  · rw [h1] at R1
    clear h1 S J1 J2
    have hx := Lib.hid (FTri.new a b fZ w)
    show Calls _ _ _ _ (Gives (fV fZ) w)
    go_enter Try.func37, Try.ntmps37
    go_wp2_with fail
    refine (R1.out _).mono ?_; rintro e w1 ⟨rfl, b1⟩
    have x1 := hx.out.after b1
    obtain ⟨e0, e1, e2, e3⟩ := x1.2.cells
    obtain ⟨g0, g1, g2, g3⟩ := x1.2.free
    have XE := Lib.hid (x1.set fZ)
    clear x1 hx b1
    go_wp2_with fail
    exact bodyPost_ret (v := fV fZ) (by simp [results, Try.results37, go_sem, e0, e1, e2, e3, fZ]) rfl ⟨rfl, XE.out.1.1⟩
  · rw [h1] at R1
    exact fp_join_run a b _ _ _ _ w R1 J1 J2 S

end Go.Proofs.Ytgjcbcpedoihaaa

namespace Go.Proofs.Ytgjcbcpedoihaaa
open Go Go.RowKit
set_option maxRecDepth 100000
set_option linter.unusedVariables false

theorem fSd_in {f : Fc} (hf : fIn f) : fIn (fSd f) := by
  unfold fSd
  cases h : fS f with
  | none => exact fOf_in 0#64
  | some g => exact fS_in hf h
end Go.Proofs.Ytgjcbcpedoihaaa

namespace Go.Proofs.Ytgjcbcpedoihaaa
open Go Go.RowKit
set_option linter.unusedVariables false
set_option linter.unusedSimpArgs false

def bAt (b : List Int) (k : Nat) : Int := b.getD k 0
/-- Each is a byte. -/
def OkB (b : List Int) : Prop := ∀ k, k < b.length → 0 ≤ bAt b k ∧ bAt b k ≤ 255
/-- A slice's address reads as a row of bytes. -/
def BytS (w : World) (A : Option Addr) (b : List Int) : Prop :=
  0 < b.length → ∃ g o, A = some ⟨g, o, none⟩ ∧ g < w.heap.size ∧ ∀ k, k < b.length → w.cell? ⟨g, o + k, none⟩ = some (.int .u8 (bAt b k))
theorem BytS.none_ (w : World) (A : Option Addr) : BytS w A [] := fun h => absurd h (by simp)
theorem BytS.after {w w' : World} {A : Option Addr} {b : List Int} (h : BytS w A b) (k : Below w.heap.size w w') : BytS w' A b := fun hl => by
  obtain ⟨g, o, e, hg, hc⟩ := h hl
  exact ⟨g, o, e, Nat.lt_of_lt_of_le hg k.size, fun j hj => (k.cell (p := ⟨g, o + j, none⟩) hg).trans (hc j hj)⟩
/-- Bytes of a row, in a world. -/
def BytAt (w : World) (g o : Nat) (b : List Int) : Prop := g < w.heap.size ∧ ∀ k, k < b.length → w.cell? ⟨g, o + k, none⟩ = some (.int .u8 (bAt b k))
theorem BytAt.after {w w' : World} {g o : Nat} {b : List Int} (h : BytAt w g o b) (k : Below w.heap.size w w') : BytAt w' g o b :=
  ⟨Nat.lt_of_lt_of_le h.1 k.size, fun j hj => (k.cell (p := ⟨g, o + j, none⟩) h.1).trans (h.2 j hj)⟩
section
variable {w w' : World} {base : Nat} {e : TypeId} {c : Nat} {A : Option Addr}
end
end Go.Proofs.Ytgjcbcpedoihaaa

namespace Go.Proofs.Ytgjcbcpedoihaaa
open Go Go.RowKit
set_option linter.unusedVariables false
set_option linter.unusedSimpArgs false

/-- An area: its number, its bytes, which of them are blank, whether it is fixed. -/
structure PA where
  id : Int
  b : List Int
  bl : List Bool
  fx : Bool
def PA.zero : PA := ⟨0, [], [], false⟩
def atI (area off : Int) : Int := (area * 4294967296 + off) % 18446744073709551616
/-- An area as it may be. -/
def PA.ok (a : PA) : Prop := OkB a.b ∧ a.bl.length = a.b.length ∧ a.b.length ≤ 1024 ∧ 1 ≤ a.id ∧ a.id < 2147483648
end Go.Proofs.Ytgjcbcpedoihaaa

namespace Go.Proofs.Ytgjcbcpedoihaaa
open Go Go.RowKit
set_option linter.unusedVariables false
set_option linter.unusedSimpArgs false

/-- Blocks that are not of F are as they were; no block has gone. -/
structure Turn (F : Nat → Prop) (w w' : World) : Prop where
  os : w'.os = w.os
  tape : w'.tape = w.tape
  output : w'.output = w.output
  size : w.heap.size ≤ w'.heap.size
  block : ∀ k, k < w.heap.size → ¬ F k → w'.heap[k]? = w.heap[k]?
theorem Turn.refl (F : Nat → Prop) (w : World) : Turn F w w := ⟨rfl, rfl, rfl, Nat.le_refl _, fun _ _ _ => rfl⟩
theorem Turn.trans {F G : Nat → Prop} {a b c : World} (h : Turn F a b) (k : Turn G b c) (hG : ∀ x, G x → F x ∨ a.heap.size ≤ x) : Turn F a c :=
  ⟨k.os.trans h.os, k.tape.trans h.tape, k.output.trans h.output, Nat.le_trans h.size k.size, fun i hi hF => (k.block i (Nat.lt_of_lt_of_le hi h.size) (fun g => (hG i g).elim hF (fun x => by omega))).trans (h.block i hi hF)⟩
theorem Turn.mono {F G : Nat → Prop} {a b : World} (h : Turn F a b) (hG : ∀ x, F x → G x ∨ a.heap.size ≤ x) : Turn G a b :=
  ⟨h.os, h.tape, h.output, h.size, fun i hi hn => h.block i hi (fun f => (hG i f).elim hn (fun x => by omega))⟩
theorem Turn.drew {F : Nat → Prop} {a b : World} (h : Turn F a b) : Turn F a b.drew := ⟨h.os, h.tape, h.output, h.size, h.block⟩
theorem Turn.alloc {F : Nat → Prop} {a b : World} (h : Turn F a b) (o : Obj) : Turn F a (b.alloc o) :=
  ⟨h.os, h.tape, h.output, Nat.le_trans h.size (by simp), fun k hk hn => (Below.heap_alloc _ _ _ (Nat.lt_of_lt_of_le hk h.size)).trans (h.block k hk hn)⟩
theorem Turn.setCell {F : Nat → Prop} {a b : World} (h : Turn F a b) {p : Addr} (hp : F p.block ∨ a.heap.size ≤ p.block) (u : Value) : Turn F a (b.setCell p u) :=
  ⟨h.os, h.tape, h.output, Nat.le_trans h.size (by simp [World.setCell]), fun k hk hn => (Below.heap_setCell _ _ _ _ (fun e => by subst e; exact hp.elim hn (fun x => by omega))).trans (h.block k hk hn)⟩
theorem Turn.below {F : Nat → Prop} {B : Nat} {a b : World} (h : Turn F a b) (hB : B ≤ a.heap.size) (hF : ∀ k, k < B → ¬ F k) : Below B a b := ⟨h.os, h.tape, h.output, h.size, fun k hk => h.block k (Nat.lt_of_lt_of_le hk hB) (hF k hk)⟩
/-- On from a world that has come of the first one. -/
theorem Turn.on {F : Nat → Prop} {B : Nat} {w a b : World} (h : Below B w a) (k : Turn F a b) (hB : B ≤ a.heap.size) (hF : ∀ k, F k → B ≤ k) : Below B w b :=
  h.trans (k.below hB (fun i hi f => by have := hF i f; omega))
theorem Blk.same {g : Nat} {cs : Array Value} {t : TypeId} {w w' : World} (h : Blk g cs t w) (hs : w'.heap[g]? = w.heap[g]?) : Blk g cs t w' := hs.trans h
end Go.Proofs.Ytgjcbcpedoihaaa

namespace Go.Proofs.Ytgjcbcpedoihaaa
open Go Go.RowKit
set_option linter.unusedVariables false
set_option linter.unusedSimpArgs false

/-- An area, and the slices that hold it. -/
structure AR where
  a : PA
  vb : Value
  vk : Value
def AR.zero : AR := ⟨PA.zero, .slice none 0 0, .slice none 0 0⟩
end Go.Proofs.Ytgjcbcpedoihaaa

namespace Go.Proofs.Ytgjcbcpedoihaaa
open Go Go.RowKit
set_option maxRecDepth 100000
set_option linter.unusedVariables false
set_option linter.unusedSimpArgs false

/-- What a map is. -/
structure Df where
  hash : Bool
  key : Int
  val : Int
  max : Int
def Df.zero : Df := ⟨false, 0, 0, 0⟩
def Df.good (d : Df) : Bool := (if d.hash then decide (1 ≤ d.key) && decide (d.key ≤ 16) else d.key == 4) && decide (8 ≤ d.val) && decide (d.val ≤ 64) && (d.val % 8 == 0) && decide (1 ≤ d.max) && decide (d.max ≤ 16)
/-- A key, and its slot. -/
structure TK where
  k : List Int
  s : Nat
def TK.zero : TK := ⟨[], 0⟩
/-- A map: its keys by rising ones, how many slots came to be. -/
structure TM where
  d : Df
  L : List TK
  made : Nat
def TM.zero : TM := ⟨Df.zero, [], 0⟩
def tArea (i s : Int) : Int := 4096 + 1024 * i + s
/-- Which of two keys stands ahead. -/
def kLt : List Int → List Int → Bool
  | _, [] => false
  | [], _ :: _ => true
  | a :: x, b :: y => decide (a < b) || (a == b && kLt x y)
/-- Maps as they may be. -/
structure TM.ok (m : TM) : Prop where
  good : m.d.good = true
  keys : ∀ x ∈ m.L, OkB x.k ∧ (x.k.length : Int) = m.d.key ∧ x.s < m.made
  rise : m.L.Pairwise fun x y => kLt x.k y.k = true
  few : (m.L.length : Int) ≤ m.d.max
  made : m.made ≤ 1024
/-! Keys, one ahead of the other. -/
/-! Keys as strings. -/
end Go.Proofs.Ytgjcbcpedoihaaa

namespace Go.Proofs.Ytgjcbcpedoihaaa
open Go Go.RowKit
set_option maxRecDepth 100000
set_option linter.unusedVariables false

structure Vl where
  k : Int
  n : Fc
  i : Int
  o : Int
theorem Vl.ext' {a b : Vl} (h1 : a.k = b.k) (h2 : a.n = b.n) (h3 : a.i = b.i) (h4 : a.o = b.o) : a = b := by
  cases a; cases b; simp_all
/-- A Val as a value; its cells. -/
abbrev vV (v : Vl) : Value := .agg #[.int .u8 v.k, uV v.n.1.1, uV v.n.1.2, .int .u64 v.n.2.1, .int .u64 v.n.2.2, .int .i64 v.i, .int .i64 v.o]
abbrev vCells (v : Vl) : Array Value := #[.int .u8 v.k, uV v.n.1.1, uV v.n.1.2, .int .u64 v.n.2.1, .int .u64 v.n.2.2, .int .i64 v.i, .int .i64 v.o]
abbrev vZc : Array Value := #[.int .u8 0, .int .u64 0, .int .u64 0, .int .u64 0, .int .u64 0, .int .i64 0, .int .i64 0]
def vB (g : Nat) (v : Vl) (w : World) : Prop := Blk g (vCells v) 30 w
theorem vB.new (w : World) (v : Vl) {g : Nat} (hg : g = w.heap.size) : vB g v (w.alloc (.cells (vCells v) 30)) := Blk.new w _ _ hg
theorem vB.lt {g : Nat} {v : Vl} {w : World} (h : vB g v w) : g < w.heap.size := Blk.lt h
theorem vB.after {g : Nat} {v : Vl} {w w' : World} (h : vB g v w) (b : Below w.heap.size w w') : vB g v w' := Blk.after h b
theorem vB.alloc {g : Nat} {v : Vl} {w : World} (h : vB g v w) (o : Obj) : vB g v (w.alloc o) := h.after (below_alloc (Below.refl _ _) o)
theorem vB.cells {g : Nat} {v : Vl} {w : World} (h : vB g v w) : w.cell? ⟨g, 0, none⟩ = some (.int .u8 v.k) ∧ w.cell? ⟨g, 1, none⟩ = some (uV v.n.1.1) ∧ w.cell? ⟨g, 2, none⟩ = some (uV v.n.1.2) ∧ w.cell? ⟨g, 3, none⟩ = some (.int .u64 v.n.2.1) ∧ w.cell? ⟨g, 4, none⟩ = some (.int .u64 v.n.2.2) ∧ w.cell? ⟨g, 5, none⟩ = some (.int .i64 v.i) ∧ w.cell? ⟨g, 6, none⟩ = some (.int .i64 v.o) :=
  ⟨Blk.cell h 0, Blk.cell h 1, Blk.cell h 2, Blk.cell h 3, Blk.cell h 4, Blk.cell h 5, Blk.cell h 6⟩
theorem vB.free {g : Nat} {v : Vl} {w : World} (h : vB g v w) (k : Nat) : w.frozen? ⟨g, k, none⟩ = false := Blk.free h k

theorem Blk.seven {g : Nat} {c0 c1 c2 c3 c4 c5 c6 : Value} {w : World} (h : Blk g #[c0, c1, c2, c3, c4, c5, c6] 30 w) : w.cell? ⟨g, 0, none⟩ = some c0 ∧ w.cell? ⟨g, 1, none⟩ = some c1 ∧ w.cell? ⟨g, 2, none⟩ = some c2 ∧ w.cell? ⟨g, 3, none⟩ = some c3 ∧ w.cell? ⟨g, 4, none⟩ = some c4 ∧ w.cell? ⟨g, 5, none⟩ = some c5 ∧ w.cell? ⟨g, 6, none⟩ = some c6 :=
  ⟨Blk.cell h 0, Blk.cell h 1, Blk.cell h 2, Blk.cell h 3, Blk.cell h 4, Blk.cell h 5, Blk.cell h 6⟩
theorem below_vals {B k : Nat} {w u : World} (h : Below B w u) (hk : B ≤ k) (a b c d e f g : Value) :
    Below B w (((((((u.setCell ⟨k, 0, none⟩ a).setCell ⟨k, 1, none⟩ b).setCell ⟨k, 2, none⟩ c).setCell ⟨k, 3, none⟩ d).setCell ⟨k, 4, none⟩ e).setCell ⟨k, 5, none⟩ f).setCell ⟨k, 6, none⟩ g) :=
  ((((((h.setCell (p := ⟨k, 0, none⟩) hk _).setCell (p := ⟨k, 1, none⟩) hk _).setCell (p := ⟨k, 2, none⟩) hk _).setCell (p := ⟨k, 3, none⟩) hk _).setCell (p := ⟨k, 4, none⟩) hk _).setCell (p := ⟨k, 5, none⟩) hk _).setCell (p := ⟨k, 6, none⟩) hk _

def vIn (v : Vl) : Prop := (0 ≤ v.k ∧ v.k ≤ 255) ∧ fIn v.n ∧ (-9223372036854775808 ≤ v.i ∧ v.i ≤ 9223372036854775807) ∧ (-9223372036854775808 ≤ v.o ∧ v.o ≤ 9223372036854775807)
def vZ : Vl := ⟨0, fZ, 0, 0⟩
theorem vZ_in : vIn vZ := ⟨by decide, fOf_in 0#64, by decide, by decide⟩
/-- Are both the same? -/
def vEq (a b : Vl) : Bool := a.k == b.k && (a.n.1.1 == b.n.1.1 && (a.n.1.2 == b.n.1.2 && (a.n.2.1 == b.n.2.1 && (a.n.2.2 == b.n.2.2 && (a.i == b.i && a.o == b.o)))))
theorem vEq_iff {a b : Vl} : vEq a b = true ↔ a = b := by
  unfold vEq
  simp only [Bool.and_eq_true, beq_iff_eq]
  constructor
  · rintro ⟨h1, h2, h3, h4, h5, h6, h7⟩
    exact Vl.ext' h1 (Prod.ext (Prod.ext h2 h3) (Prod.ext h4 h5)) h6 h7
  · rintro rfl
    exact ⟨rfl, rfl, rfl, rfl, rfl, rfl, rfl⟩
theorem fJ_in' {a b : Fc} (ha : fIn a) (hb : fIn b) : fIn (fJ a b) := by
  unfold fJ
  split
  · exact fSd_in (f := (tJ a.1 b.1, sJ a.2 b.2)) (sJ_in ha hb)
  · exact fOf_in 0#64
theorem vEq_refl (a : Vl) : vEq a a = true := vEq_iff.mpr rfl
theorem toNat_eq {x y : BitVec 64} : ((x.toNat : Int) = (y.toNat : Int)) = (x = y) := by
  rw [← BitVec.toNat_inj]; exact propext ⟨fun h => by omega, fun h => by omega⟩
theorem vEq_ite {α : Type} (a b : Vl) (x y : α) : (if a.k = b.k then if (a.n.1.1.toNat : Int) = b.n.1.1.toNat then if (a.n.1.2.toNat : Int) = b.n.1.2.toNat then if a.n.2.1 = b.n.2.1 then if a.n.2.2 = b.n.2.2 then if a.i = b.i then if a.o = b.o then x else y else y else y else y else y else y else y) = if vEq a b then x else y := by
  unfold vEq
  by_cases h1 : a.k = b.k <;> by_cases h2 : a.n.1.1 = b.n.1.1 <;> by_cases h3 : a.n.1.2 = b.n.1.2 <;> by_cases h4 : a.n.2.1 = b.n.2.1 <;> by_cases h5 : a.n.2.2 = b.n.2.2 <;> by_cases h6 : a.i = b.i <;> by_cases h7 : a.o = b.o <;> simp [h1, h2, h3, h4, h5, h6, h7, toNat_eq]
/-- With the fields alone that are said with its kind. -/
def vSaid (v : Vl) : Vl := if v.k = 1 then ⟨v.k, v.n, 0, 0⟩ else if v.k = 2 ∨ v.k = 3 then ⟨v.k, fZ, 0, v.o⟩ else if v.k = 4 ∨ v.k = 6 then ⟨v.k, fZ, v.i, 0⟩ else if v.k = 5 then ⟨v.k, fZ, v.i, v.o⟩ else vZ
def near (o : Int) : Bool := decide (-1048576 ≤ o) && decide (o ≤ 1048576)
def vR (v : Vl) : Bool := vEq v (vSaid v) && (fR v.n && (decide (0 ≤ v.i) && (decide (v.i < 8) && near v.o)))
def vNum (f : Fc) : Vl := if fR f then ⟨1, f, 0, 0⟩ else vZ
def vP (v : Vl) : Bool := vR v && (v.k == 2 || v.k == 3 || v.k == 5)
/-- Is a number At of one of the places of map i, and o? -/
def vInM (i o n : Int) : Bool := (List.range 1024).any fun s => n == atI (tArea i s) o
def vHas (v : Vl) (n : BitVec 64) : Bool :=
  if v.k = 1 then fHs v.n n else if v.k = 2 then (n.toNat : Int) == atI 1 v.o else if v.k = 3 then (n.toNat : Int) == atI 2 v.o else if v.k = 4 then (n.toNat : Int) == atI 3 v.i
  else if v.k = 5 then vInM v.i v.o n.toNat else if v.k = 6 then ((n.toNat : Int) == 0 || vInM v.i 0 n.toNat) else false
def vIs (v : Vl) (n : BitVec 64) (set : Bool) : Bool := vR v && (v.k == 0 || (set && vHas v n))
def vW (a b : Vl) : Bool := (vR a && vR b) && (b.k == 0 || (vEq a b || ((a.k == 1 && b.k == 1) && fWi a.n b.n)))
def vJ (a b : Vl) : Vl := if vR a && vR b then (if a.k == 1 && b.k == 1 then vNum (fJ a.n b.n) else if vEq a b then a else vZ) else vZ
/-- A u64 as an int. -/
def asI (n : BitVec 64) : Int := if (n.toNat : Int) < 9223372036854775808 then n.toNat else n.toNat - 18446744073709551616
def vM (v : Vl) (n : BitVec 64) : Option Vl := if vP v && (near (asI n) && near (v.o + asI n)) then some { v with o := v.o + asI n } else none

end Go.Proofs.Ytgjcbcpedoihaaa

namespace Go.Proofs.Ytgjcbcpedoihaaa
open Go.ChangeShapes Go.WideShapes Go.RowKit

/-- A cell's kind: a number's, or (none) a bool. -/
def LeafOk : Option IntKind → Value → Prop
  | some k, v => ∃ n, v = .int k n ∧ (Lit.int k n).wf = true
  | none, v => ∃ b, v = .bool b

/-- Cell j of a value of type t, looked for n deep. -/
def leafAt (P : Program) : Nat → TypeId → Nat → Option (Option IntKind)
  | 0, _, _ => none
  | n + 1, t, j =>
    match P.underlying t with
    | some (.int k) => if j = 0 then some (some k) else none
    | some .bool => if j = 0 then some none else none
    | some (.struct fs) => (fs.toList.find? fun f => decide (f.offset ≤ j ∧ j < f.offset + P.cellsOf f.type)).bind fun f => leafAt P n f.type (j - f.offset)
    | some (.array m e) => if P.cellsOf e = 0 then none else if j < m * P.cellsOf e then leafAt P n e (j % P.cellsOf e) else none
    | _ => none

section
variable {H : Type} {enc : TypeId × Value → H} {P : Program} {w : World} {base : Nat} {spare : Nat → Bool} {held : Bool}

theorem leaf_of_trod : ∀ (n fuel : Nat) (t : TypeId) (cs : List Value) (x : DataW H × List MemPlace) (j : Nat) (L : Option IntKind),
    DataW.trod enc P w base spare held fuel t cs = some x → leafAt P n t j = some L → ∃ v, cs[j]? = some v ∧ LeafOk L v := by
  intro n
  induction n with
  | zero => intro fuel t cs x j L _ hl; simp [leafAt] at hl
  | succ n ih =>
    intro fuel t cs x j L h hl
    unfold leafAt at hl
    split at hl
    · rename_i k hk
      obtain ⟨m, rfl, _, hw⟩ := DataW.trod_int hk h
      split at hl
      · rename_i hj
        subst hj
        cases hl
        exact ⟨_, rfl, m, rfl, hw⟩
      · cases hl
    · rename_i hk
      obtain ⟨b, rfl, _⟩ := DataW.trod_bool hk h
      split at hl
      · rename_i hj
        subst hj
        cases hl
        exact ⟨_, rfl, b, rfl⟩
      · cases hl
    · rename_i fs hk
      obtain ⟨xs, m, _, _, _, hlen, hf⟩ := DataW.trod_struct hk h
      obtain ⟨f, hfind, hrest⟩ := Option.bind_eq_some_iff.1 hl
      have hmem := List.mem_of_find?_eq_some hfind
      have hp := List.find?_some hfind
      simp only [decide_eq_true_eq] at hp
      obtain ⟨i, hi, hget⟩ := List.getElem_of_mem hmem
      have hif : fs[i]? = some f := by
        have : i < fs.size := by simpa using hi
        rw [Array.getElem?_eq_getElem this]
        simpa using hget
      have hx : xs[i]? = some (xs[i]'(by rw [hlen]; simpa using hi)) := List.getElem?_eq_getElem _
      have h1 := (hf i f hif).trans hx
      obtain ⟨v, hv, hok⟩ := ih _ _ _ _ _ _ h1 hrest
      refine ⟨v, ?_, hok⟩
      rw [List.getElem?_take, if_pos (by omega), List.getElem?_drop] at hv
      rw [← hv]
      congr 1
      omega
    · rename_i m e hk
      obtain ⟨xs, k, _, _, _, hlen, hf⟩ := DataW.trod_array hk h
      split at hl
      · cases hl
      · rename_i hne
        split at hl
        · rename_i hlt
          have hpos : 0 < P.cellsOf e := Nat.pos_of_ne_zero hne
          have hdm := Nat.div_add_mod j (P.cellsOf e)
          have hq : j / P.cellsOf e < m := (Nat.div_lt_iff_lt_mul hpos).2 hlt
          have hr := Nat.mod_lt j hpos
          have hx : xs[j / P.cellsOf e]? = some (xs[j / P.cellsOf e]'(by omega)) := List.getElem?_eq_getElem _
          have h1 := (hf _ hq).trans hx
          obtain ⟨v, hv, hok⟩ := ih _ _ _ _ _ _ h1 hl
          refine ⟨v, ?_, hok⟩
          rw [List.getElem?_take, if_pos hr, List.getElem?_drop] at hv
          rw [← hv]
          congr 1
          rw [Nat.mul_comm] at hdm
          omega
        · cases hl
    · cases hl

/-- A value that reads: cell j of it. -/
theorem leaf_of_Trod {t : TypeId} {v : Value} {d : DataW H} {p : List MemPlace} (h : DataW.Trod enc P w base spare held t v d p) (n j : Nat) {L : Option IntKind} (hl : leafAt P n t j = some L) :
    ∃ u, v.cells.toList[j]? = some u ∧ LeafOk L u := by
  obtain ⟨fuel, hf⟩ := h
  exact leaf_of_trod n fuel t _ _ j L hf hl

theorem agg_of_struct {r : Reach} {b0 : Nat} {t : TypeId} {fs : Array Field} {v : Value} (ht : P.underlying t = some (.struct fs)) (hv : Value.okWide P w r b0 t v) :
    ∃ l : List Value, v = .agg ⟨l⟩ ∧ l.length = P.cellsOf t := by
  obtain ⟨cs, rfl, hs⟩ := okWide_struct ht hv
  exact ⟨cs.toList, by simp, by simpa using hs⟩
end

theorem LeafOk.int_ {k : IntKind} {l : List Value} {j : Nat} (h : ∃ u, l[j]? = some u ∧ LeafOk (some k) u) : ∃ n, l[j]? = some (.int k n) ∧ (Lit.int k n).wf = true := by
  obtain ⟨u, hu, n, rfl, hw⟩ := h
  exact ⟨n, hu, hw⟩
end Go.Proofs.Ytgjcbcpedoihaaa

namespace Go.Proofs.Ytgjcbcpedoihaaa
open Go.ChangeShapes Go.WideShapes Go.ChangeAt Go.RowKit

section
variable {H : Type} {enc : TypeId × Value → H}

/-- All arguments read behind the call as they did, if below the heap's old size nothing has turned. -/
theorem below_trodAll {P : Program} (hl : laidOutB P = true) {W W' : World} (hb : Below W.heap.size W W') :
    ∀ (ts : List TypeId) (vs : List Value) (ds : List (DataW H)) (ps : List MemPlace),
      (ts.all fun t => P.readableRec t && decide (t < P.types.size)) = true →
      DataW.TrodAll enc P W 0 (fun _ => true) true ts vs ds ps →
      DataW.TrodAll enc P W' 0 (fun b => decide (b < W.heap.size)) true ts vs ds ps := by
  intro ts
  induction ts with
  | nil =>
    intro vs ds ps _ h
    cases vs with
    | nil =>
      cases ds with
      | nil => simpa [DataW.TrodAll] using h
      | cons d ds => simp [DataW.TrodAll] at h
    | cons v vs => simp [DataW.TrodAll] at h
  | cons t ts ih =>
    intro vs ds ps hr h
    simp only [List.all_cons, Bool.and_eq_true, decide_eq_true_eq] at hr
    obtain ⟨v, vs', d, ds', p, q, rfl, rfl, rfl, h1, h2⟩ := trodAll_cons h
    have hlt : ∀ x ∈ p, x.block < W.heap.size := by
      obtain ⟨m, hm⟩ := h1
      exact DataW.trod_lt m _ _ _ hm
    exact trodAll_cons_mk (Below.trod hl hr.1.1 hr.1.2 h1 hb hlt) (ih _ _ _ hr.2 h2)

theorem trodAll_length {P : Program} {w : World} {base : Nat} {spare : Nat → Bool} {held : Bool} : ∀ (ts : List TypeId) (vs : List Value) (ds : List (DataW H)) (ps : List MemPlace),
    DataW.TrodAll enc P w base spare held ts vs ds ps → ds.length = ts.length := by
  intro ts
  induction ts with
  | nil =>
    intro vs ds ps h
    cases vs with
    | nil =>
      cases ds with
      | nil => rfl
      | cons d ds => simp [DataW.TrodAll] at h
    | cons v vs => simp [DataW.TrodAll] at h
  | cons t ts ih =>
    intro vs ds ps h
    obtain ⟨v, vs', d, ds', p, q, rfl, rfl, rfl, _, h2⟩ := trodAll_cons h
    simp [ih _ _ _ h2]

/-- The row's step, for a law of whatever number of arguments. -/
theorem law_lifted {C : Checked} {os : Os} {f : FuncId} {fn : Func} {s : ChangeSpec} {conds : List PathCond} {b : TypeId}
    (own : ownKnob C.prog.godebug = none) (started : os.Started) (noInit : C.prog.inits.idxOf? f = none) (hfn : C.prog.funcs[f]? = some fn)
    (witness : ∃ (w : World) (tape : Tape) (i : Input), w.os = os ∧ (w.forCall tape i).Shaped C.prog ∧ i.vars = [] ∧ Input.okWide C.prog (w.forCall tape i) .any w.heap.size f i ∧
      s.pre6 enc C.prog fn conds false (w.forCall tape i).memory i.args ∧ ({} : Assume).holds C.prog (lone (Frame.enter C.prog f i.args .normal) [] (w.forCall tape i)))
    (hl : laidOutB C.prog = true) (hvars : s.vars = []) (hres : fn.resultTypes = #[b]) (hb : C.prog.underlying b = some .bool)
    (hread : (fn.params.toList.all fun t => C.prog.readableRec t && decide (t < C.prog.types.size)) = true)
    (hspec : ∀ ds : List (DataW H), ds.length = fn.params.size → s.fn H ds = { results := [.lit (.bool true)], args := ds, vars := [] })
    (walk : ∀ (W : World) (base : Nat) (args : Array Value) (ds : List (DataW H)) (p : List MemPlace),
      (∀ (j : Nat) t v, fn.params[j]? = some t → args[j]? = some v → Value.okWide C.prog W .any base t v) →
      DataW.TrodAll enc C.prog W 0 (fun _ => true) true fn.params.toList args.toList ds p →
      Calls C.prog f args W fun e W' => e = .returned (.bool true) ∧ Below W.heap.size W W') :
    ReturnsInHanded {} C os f .any (s.pre6 enc C.prog fn conds false) (s.post enc C.prog fn false true false false) := by
  refine returnsInHanded_of_change own started noInit hfn witness ?_
  intro W base args ds gs before hval hW _ _
  have hW' := hW
  obtain ⟨p, q, hA, hV, rfl, _, _⟩ := hW
  rw [hvars] at hV
  obtain ⟨rfl, rfl⟩ := trodVars_none hV
  refine (walk W base args ds p hval hA).mono fun e W' ⟨he, bel⟩ => ?_
  have hlen : ds.length = fn.params.size := by simpa using trodAll_length _ _ _ _ hA
  have hsp := hspec ds hlen
  refine ⟨_, he, ds, [], _, [], p, [], hW', ?_, ?_, ?_, bel.frame _, fun h => by cases h⟩
  · rw [List.append_nil, hsp, hres]
    exact trodAll_mk1 (shut_bool hb _)
  · rw [List.append_nil, hsp]
    exact below_trodAll hl bel _ _ _ _ hread hA
  · rw [List.append_nil, hsp, hvars]
    rfl
end

end Go.Proofs.Ytgjcbcpedoihaaa

namespace Go.Proofs.Ytgjcbcpedoihaaa
open Go.ChangeShapes Go.WideShapes Go.RowKit
set_option linter.unusedVariables false

theorem own_none : ownKnob Try.prog.godebug = none := by kernel_rfl
theorem laid_out : laidOutB Try.prog = true := by kernel_rfl

section
variable {H : Type} {enc : TypeId × Value → H} {P : Program} {w : World} {base : Nat} {spare : Nat → Bool} {held : Bool}
end

end Go.Proofs.Ytgjcbcpedoihaaa

namespace Go.Proofs.Ytgjcbcpedoihaaa
open Go.ChangeShapes Go.WideShapes Go.RowKit
set_option maxRecDepth 100000
set_option linter.unusedVariables false

section
variable {H : Type} {enc : TypeId × Value → H} {w : World} {base : Nat} {spare : Nat → Bool} {held : Bool}
set_option maxRecDepth 100000 in
theorem open_fact {r : Reach} {b0 : Nat} {v : Value} {d : DataW H} {p : List MemPlace} (hv : Value.okWide Try.prog w r b0 28 v) (h : DataW.Trod enc Try.prog w base spare held 28 v d p) :
    ∃ f : Fc, v = fV f ∧ fIn f := by
  obtain ⟨l, rfl, hl⟩ := agg_of_struct Try.underlying28 hv
  have hc : Try.prog.cellsOf 28 = 4 := by kernel_rfl
  rw [hc] at hl
  obtain ⟨n0, e0, w0⟩ := LeafOk.int_ (leaf_of_Trod h 8 0 (L := some .u64) (by kernel_rfl))
  obtain ⟨n1, e1, w1⟩ := LeafOk.int_ (leaf_of_Trod h 8 1 (L := some .u64) (by kernel_rfl))
  obtain ⟨n2, e2, w2⟩ := LeafOk.int_ (leaf_of_Trod h 8 2 (L := some .u64) (by kernel_rfl))
  obtain ⟨n3, e3, w3⟩ := LeafOk.int_ (leaf_of_Trod h 8 3 (L := some .u64) (by kernel_rfl))
  match l, hl with
  | [c0, c1, c2, c3], _ =>
    simp [Value.cells] at e0 e1 e2 e3
    subst e0 e1 e2 e3
    obtain ⟨x, rfl⟩ := bv_of (bounds_u64 w0)
    obtain ⟨y, rfl⟩ := bv_of (bounds_u64 w1)
    exact ⟨((x, y), (n2, n3)), rfl, bounds_u64 w2, bounds_u64 w3⟩
end

end Go.Proofs.Ytgjcbcpedoihaaa

namespace Go.Proofs.Ytgjcbcpedoihaaa
open Go Go.RowKit

set_option maxRecDepth 100000
/-- Where memory is: mem's At, table's Area, and the document's. -/
theorem vu_At (a o : Int) (w : World) : Calls Try.prog 43 #[.int .i64 a, .int .i64 o] w (Gives (.int .u64 (atI a o)) w) := by
  go_enter Try.func43, Try.ntmps43
  go_wp2_with fail
  go_ret
  refine ⟨?_, Below.refl _ _⟩
  apply end_int
  unfold atI
  simp only [IntKind.wrap_u64]
  omega
theorem vr_At (a o : Int) (w : World) : Calls Try.prog 27 #[.int .i64 a, .int .i64 o] w (Gives (.int .u64 (atI a o)) w) := by
  go_enter Try.func27, Try.ntmps27
  go_wp2_with fail
  go_ret
  refine ⟨?_, Below.refl _ _⟩
  apply end_int
  unfold atI
  simp only [IntKind.wrap_u64]
  omega
theorem vu_Area (i s : Int) (w : World) (hi : 0 ≤ i ∧ i ≤ 100000) (hs : 0 ≤ s ∧ s ≤ 100000) : Calls Try.prog 64 #[.int .i64 i, .int .i64 s] w (Gives (.int .i64 (tArea i s)) w) := by
  go_enter Try.func64, Try.ntmps64
  go_wp2_with fail
  go_ret
  exact ⟨end_int (by unfold tArea; omega), Below.refl _ _⟩
theorem vr_Area (i s : Int) (w : World) (hi : 0 ≤ i ∧ i ≤ 100000) (hs : 0 ≤ s ∧ s ≤ 100000) : Calls Try.prog 47 #[.int .i64 i, .int .i64 s] w (Gives (.int .i64 (tArea i s)) w) := by
  go_enter Try.func47, Try.ntmps47
  go_wp2_with fail
  go_ret
  exact ⟨end_int (by unfold tArea; omega), Below.refl _ _⟩
theorem val_use : True := by
  have := @fp_right
  have := @fp_has
  have := @fp_within
  have := @fp_join
  have := @rf_right
  have := @rf_has
  have := @rf_within
  have := @rf_join
  have := @rf_of
  trivial

end Go.Proofs.Ytgjcbcpedoihaaa

namespace Go.Proofs.Ytgjcbcpedoihaaa
open Go Go.RowKit
set_option maxRecDepth 100000
set_option linter.unusedVariables false
set_option linter.unusedSimpArgs false

/-- Kinds, told apart. -/
def vKs (v : Vl) (a b c d e f : Bool) : Prop := (v.k == 1) = a ∧ (v.k == 2) = b ∧ (v.k == 3) = c ∧ (v.k == 4) = d ∧ (v.k == 5) = e ∧ (v.k == 6) = f
set_option maxRecDepth 100000 in
set_option maxHeartbeats 4000000 in
theorem vp_said (v : Vl) (w : World) : Calls Try.prog 28 #[vV v] w (Gives (vV (vSaid v)) w) := by
  have hx := Lib.hid (((Blks.start w).new (vCells v) 30).new vZc 30)
  obtain ⟨c0, c1, c2, c3, c4, c5, c6⟩ := vB.cells (hx.out.get (g := w.heap.size) (cs := vCells v) (t := 30) (by simp))
  have y := hx.out.get (g := w.heap.size + 1) (cs := vZc) (t := 30) (by simp)
  obtain ⟨y0, y1, y2, y3, y4, y5, y6⟩ := Blk.seven y
  clear y hx
  cases h1 : (v.k == 1)
  rotate_left
  · have e : vSaid v = ⟨v.k, v.n, 0, 0⟩ := by unfold vSaid; simp [beq_iff_eq] at h1; simp [h1]
    rw [e]
    clear e
    go_enter Try.func28, Try.ntmps28
    go_wp2_with fail
    exact bodyPost_ret (v := vV ⟨v.k, v.n, 0, 0⟩) (by simp [results, Try.results28, go_sem, y0, y1, y2, y3, y4, y5, y6, fZ, vZ]) rfl ⟨rfl, below_alloc (below_alloc (Below.refl _ _) _) _⟩
  cases h2 : (v.k == 2)
  rotate_left
  · have e : vSaid v = ⟨v.k, fZ, 0, v.o⟩ := by unfold vSaid; simp [beq_iff_eq] at h1 h2; simp [h1, h2]
    rw [e]
    clear e
    go_enter Try.func28, Try.ntmps28
    go_wp2_with fail
    exact bodyPost_ret (v := vV ⟨v.k, fZ, 0, v.o⟩) (by simp [results, Try.results28, go_sem, y0, y1, y2, y3, y4, y5, y6, fZ, vZ]) rfl ⟨rfl, below_alloc (below_alloc (Below.refl _ _) _) _⟩
  cases h3 : (v.k == 3)
  rotate_left
  · have e : vSaid v = ⟨v.k, fZ, 0, v.o⟩ := by unfold vSaid; simp [beq_iff_eq] at h1 h2 h3; simp [h1, h2, h3]
    rw [e]
    clear e
    go_enter Try.func28, Try.ntmps28
    go_wp2_with fail
    exact bodyPost_ret (v := vV ⟨v.k, fZ, 0, v.o⟩) (by simp [results, Try.results28, go_sem, y0, y1, y2, y3, y4, y5, y6, fZ, vZ]) rfl ⟨rfl, below_alloc (below_alloc (Below.refl _ _) _) _⟩
  cases h4 : (v.k == 4)
  rotate_left
  · have e : vSaid v = ⟨v.k, fZ, v.i, 0⟩ := by unfold vSaid; simp [beq_iff_eq] at h1 h2 h3 h4; simp [h1, h2, h3, h4]
    rw [e]
    clear e
    go_enter Try.func28, Try.ntmps28
    go_wp2_with fail
    exact bodyPost_ret (v := vV ⟨v.k, fZ, v.i, 0⟩) (by simp [results, Try.results28, go_sem, y0, y1, y2, y3, y4, y5, y6, fZ, vZ]) rfl ⟨rfl, below_alloc (below_alloc (Below.refl _ _) _) _⟩
  cases h6 : (v.k == 6)
  rotate_left
  · have e : vSaid v = ⟨v.k, fZ, v.i, 0⟩ := by unfold vSaid; simp [beq_iff_eq] at h1 h2 h3 h4 h6; simp [h1, h2, h3, h4, h6]
    rw [e]
    clear e
    go_enter Try.func28, Try.ntmps28
    go_wp2_with fail
    exact bodyPost_ret (v := vV ⟨v.k, fZ, v.i, 0⟩) (by simp [results, Try.results28, go_sem, y0, y1, y2, y3, y4, y5, y6, fZ, vZ]) rfl ⟨rfl, below_alloc (below_alloc (Below.refl _ _) _) _⟩
  cases h5 : (v.k == 5)
  rotate_left
  · have e : vSaid v = ⟨v.k, fZ, v.i, v.o⟩ := by unfold vSaid; simp [beq_iff_eq] at h1 h2 h3 h4 h6 h5; simp [h1, h2, h3, h4, h6, h5]
    rw [e]
    clear e
    go_enter Try.func28, Try.ntmps28
    go_wp2_with fail
    exact bodyPost_ret (v := vV ⟨v.k, fZ, v.i, v.o⟩) (by simp [results, Try.results28, go_sem, y0, y1, y2, y3, y4, y5, y6, fZ, vZ]) rfl ⟨rfl, below_alloc (below_alloc (Below.refl _ _) _) _⟩
  · have e : vSaid v = vZ := by unfold vSaid; simp [beq_iff_eq] at h1 h2 h3 h4 h6 h5; simp [h1, h2, h3, h4, h6, h5]
    rw [e]
    clear e
    go_enter Try.func28, Try.ntmps28
    go_wp2_with fail
    exact bodyPost_ret (v := vV vZ) (by simp [results, Try.results28, go_sem, y0, y1, y2, y3, y4, y5, y6, fZ, vZ]) rfl ⟨rfl, below_alloc (below_alloc (Below.refl _ _) _) _⟩
theorem vp_near (n : Int) (w : World) : Calls Try.prog 25 #[.int .i64 n] w (Gives (.bool (near n)) w) := by
  unfold near
  by_cases h1 : -1048576 ≤ n
  · by_cases h2 : n ≤ 1048576
    · rw [decide_eq_true h1, decide_eq_true h2]
      go_enter Try.func25, Try.ntmps25
      go_wp2_with fail
      go_ret
      exact ⟨rfl, Below.refl _ _⟩
    · rw [decide_eq_true h1, decide_eq_false h2]
      go_enter Try.func25, Try.ntmps25
      go_wp2_with fail
      go_ret
      exact ⟨rfl, Below.refl _ _⟩
  · rw [decide_eq_false h1]
    go_enter Try.func25, Try.ntmps25
    go_wp2_with fail
    go_ret
    exact ⟨rfl, Below.refl _ _⟩

end Go.Proofs.Ytgjcbcpedoihaaa
