/-
  What tnum's small functions answer, as contracts over their translated bodies.
  Conditions: none.
-/
import Derived.Test.YtkiekbkjhlbnhaaTnumPlain
import Derived.Test.YtkiekbkjhlbnhaaKit
namespace Go.Proofs.Ytkiekbkjhlbnhaa
open Go.RowKit
set_option linter.unusedVariables false

/-- One answer, and nothing that was there has turned. -/
def Gives (v : Value) (w : World) (e : Ending) (w' : World) : Prop := e = .returned v ∧ Below w.heap.size w w'
theorem gives_same {v u : Value} {w w' : World} {e : Ending} (h : u = v) (hg : Gives u w e w') : Gives v w e w' := by rw [← h]; exact hg

/-- A block that holds what may be known. -/
def Box (g : Nat) (t : Tn) (w : World) : Prop := w.heap[g]? = some (.cells #[uV t.1, uV t.2] 24 (0, 0))
theorem Box.lt {g : Nat} {t : Tn} {w : World} (h : Box g t w) : g < w.heap.size := by
  rcases Nat.lt_or_ge g w.heap.size with k | k
  · exact k
  · unfold Box at h; rw [Array.getElem?_eq_none k] at h; cases h
theorem Box.new (w : World) (t : Tn) {g : Nat} (hg : g = w.heap.size) : Box g t (w.alloc (.cells #[uV t.1, uV t.2] 24)) := by
  subst hg
  show (w.heap.push _)[w.heap.size]? = _
  simp
theorem Box.below {g : Nat} {t : Tn} {w w' : World} {B : Nat} (h : Box g t w) (b : Below B w w') (hB : g < B) : Box g t w' := (b.block g hB).trans h
theorem Box.after {g : Nat} {t : Tn} {w w' : World} (h : Box g t w) (b : Below w.heap.size w w') : Box g t w' := h.below b h.lt
theorem below_alloc {w w' : World} (h : Below w.heap.size w w') (o : Obj) : Below w.heap.size w (w'.alloc o) := h.alloc h.size o
theorem Box.alloc {g : Nat} {t : Tn} {w : World} (h : Box g t w) (o : Obj) : Box g t (w.alloc o) := h.after (below_alloc (Below.refl _ _) o)
theorem Box.cells {g : Nat} {t : Tn} {w : World} (h : Box g t w) : w.cell? ⟨g, 0, none⟩ = some (uV t.1) ∧ w.cell? ⟨g, 1, none⟩ = some (uV t.2) :=
  ⟨cell_of_row w g 0 _ _ (0, 0) h, cell_of_row w g 1 _ _ (0, 0) h⟩
theorem Box.free {g : Nat} {t : Tn} {w : World} (h : Box g t w) : w.frozen? ⟨g, 0, none⟩ = false ∧ w.frozen? ⟨g, 1, none⟩ = false := by
  unfold Box at h
  constructor <;> simp [World.frozen?, h]
theorem Box.set0 {g : Nat} {t : Tn} {w : World} (h : Box g t w) (x : BitVec 64) : Box g (x, t.2) (w.setCell ⟨g, 0, none⟩ (uV x)) := by
  unfold Box at *
  simp [World.setCell, Array.getElem?_modify, h]
theorem Box.set1 {g : Nat} {t : Tn} {w : World} (h : Box g t w) (x : BitVec 64) : Box g (t.1, x) (w.setCell ⟨g, 1, none⟩ (uV x)) := by
  unfold Box at *
  simp [World.setCell, Array.getElem?_modify, h]
theorem Box.set {g : Nat} {t : Tn} {w : World} (h : Box g t w) (u : Tn) : Box g u ((w.setCell ⟨g, 0, none⟩ (uV u.1)).setCell ⟨g, 1, none⟩ (uV u.2)) := (h.set0 u.1).set1 u.2
theorem Box.other {g k o : Nat} {t : Tn} {w : World} (h : Box g t w) (v : Value) (hk : g ≠ k) : Box g t (w.setCell ⟨k, o, none⟩ v) := (Below.heap_setCell w ⟨k, o, none⟩ v g hk).trans h

theorem bv_andNot' (x y : BitVec 64) : ((x.toNat &&& (18446744073709551615 - y.toNat) : Nat) : Int) = ((x &&& ~~~y).toNat : Int) := by
  rw [BitVec.toNat_and, BitVec.toNat_not]

theorem right_says (t : Tn) (w : World) : Calls Try.prog 13 #[tV t] w (Gives (.bool (tR t)) w) := by
  go_enter Try.func13, Try.ntmps13
  go_wp2
  go_ret
  exact ⟨end_bool (by rw [bv_and, bv_eq0]; rfl), below_alloc (Below.refl _ _) _⟩
theorem of_says (n : BitVec 64) (w : World) : Calls Try.prog 15 #[uV n] w (Gives (tV (n, 0#64)) w) := by
  go_enter Try.func15, Try.ntmps15
  go_wp2
  refine bodyPost_ret (v := tV (n, 0#64)) (by simp [results, Try.results15, go_sem]) rfl ⟨rfl, ?_⟩
  exact below_alloc (Below.refl _ _) _
theorem has_says (t : Tn) (n : BitVec 64) (w : World) : Calls Try.prog 16 #[tV t, uV n] w (Gives (.bool (tH t n)) w) := by
  go_enter Try.func16, Try.ntmps16
  go_wp2
  go_ret
  exact ⟨end_bool (by rw [bv_andNot, bv_beq]; rfl), below_alloc (Below.refl _ _) _⟩
theorem both_says (a b : Tn) (w : World) : Calls Try.prog 28 #[tV a, tV b] w (Gives (.bool (tRR a b)) w) := by
  have h1 := Lib.hid (right_says a)
  have h2 := Lib.hid (right_says b)
  have hb := Lib.hid (Box.new (w.alloc (.cells #[uV a.1, uV a.2] 24)) b (g := w.heap.size + 1) (by simp))
  have hw := Lib.hid (below_alloc (below_alloc (Below.refl w.heap.size w) (.cells #[uV a.1, uV a.2] 24)) (.cells #[uV b.1, uV b.2] 24))
  unfold tRR
  cases ha : tR a
  · rw [ha] at h1
    clear ha
    generalize tR b = y at *
    go_enter Try.func28, Try.ntmps28
    go_wp2_with fail
    refine (h1.out _).mono ?_; rintro e w1 ⟨rfl, b1⟩
    go_wp2_with fail
    go_ret
    exact ⟨rfl, below_next' hw.out b1⟩
  · rw [ha] at h1
    clear ha
    generalize tR b = y at *
    go_enter Try.func28, Try.ntmps28
    go_wp2_with fail
    refine (h1.out _).mono ?_; rintro e w1 ⟨rfl, b1⟩
    obtain ⟨p0, p1⟩ := (hb.out.after b1).cells
    go_wp2_with fail
    refine (h2.out _).mono ?_; rintro e w2 ⟨rfl, b2⟩
    go_wp2_with fail
    go_ret
    exact ⟨rfl, below_next' (below_next' hw.out b1) b2⟩
theorem made_says (v m : BitVec 64) (w : World) : Calls Try.prog 29 #[uV v, uV m] w (Gives (tV (tMade v m)) w) := by
  go_enter Try.func29, Try.ntmps29
  go_wp2
  rw [bv_andNot]
  refine bodyPost_ret (v := tV (tMade v m)) (by simp [results, Try.results29, go_sem, tMade]) rfl ⟨rfl, ?_⟩
  exact below_alloc (Below.refl _ _) _
theorem maybe_says (t : Tn) (w : World) : Calls Try.prog 36 #[tV t] w (Gives (uV (t.1 ||| t.2)) w) := by
  go_enter Try.func36, Try.ntmps36
  go_wp2
  go_ret
  exact ⟨end_int (by rw [bv_or]), below_alloc (Below.refl _ _) _⟩

end Go.Proofs.Ytkiekbkjhlbnhaa
