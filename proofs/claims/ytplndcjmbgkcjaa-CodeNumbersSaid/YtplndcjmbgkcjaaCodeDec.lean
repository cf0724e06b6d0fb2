/-
  Plain rows of bytes and of instructions: what bytes are, and what instructions are as bytes. No program is named here.
-/
import Derived.Test.YtplndcjmbgkcjaaCodeChk
import Derived.Test.YtplndcjmbgkcjaaPlain
namespace Go.Proofs.Ytplndcjmbgkcjaa
open Go Go.RowKit
set_option linter.unusedVariables false
set_option linter.unusedSimpArgs false

def bAt (b : List Int) (k : Nat) : Int := b.getD k 0
/-- Each is a byte. -/
def OkB (b : List Int) : Prop := ∀ k, k < b.length → 0 ≤ bAt b k ∧ bAt b k ≤ 255
/-- The instruction at a place of bytes. -/
def decI (b : List Int) (k : Nat) : Ins :=
  ⟨bAt b (k * 8), bAt b (k * 8 + 1) % 16, bAt b (k * 8 + 1) / 16, IntKind.i16.wrap (bAt b (k * 8 + 2) + 256 * bAt b (k * 8 + 3)), wrap32 (bAt b (k * 8 + 4) + 256 * bAt b (k * 8 + 5) + 65536 * bAt b (k * 8 + 6) + 16777216 * bAt b (k * 8 + 7))⟩
def decL (b : List Int) : List Ins := (List.range (b.length / 8)).map (decI b)
theorem decL_len (b : List Int) : (decL b).length = b.length / 8 := by simp [decL]
theorem decL_at (b : List Int) {k : Nat} (h : k < b.length / 8) : iAt (decL b) k = decI b k := by
  unfold iAt decL
  rw [List.getD_eq_getElem?_getD, List.getElem?_map, List.getElem?_range h]
  rfl
theorem i16_rng (x : Int) : -32768 ≤ IntKind.i16.wrap x ∧ IntKind.i16.wrap x ≤ 32767 := by
  simp [IntKind.wrap, IntKind.bits, IntKind.signed]
  split <;> omega
theorem w32_rng (x : Int) : -2147483648 ≤ wrap32 x ∧ wrap32 x ≤ 2147483647 := by
  unfold wrap32
  omega
theorem decI_ok {b : List Int} (hb : OkB b) {k : Nat} (h : k < b.length / 8) : (decI b k).ok := by
  have h0 := hb (k * 8) (by omega)
  have h1 := hb (k * 8 + 1) (by omega)
  have h2 := i16_rng (bAt b (k * 8 + 2) + 256 * bAt b (k * 8 + 3))
  have h3 := w32_rng (bAt b (k * 8 + 4) + 256 * bAt b (k * 8 + 5) + 65536 * bAt b (k * 8 + 6) + 16777216 * bAt b (k * 8 + 7))
  refine ⟨h0, ?_, ?_, h2, h3⟩
  · show 0 ≤ _ % 16 ∧ _ % 16 ≤ 255
    omega
  · show 0 ≤ _ / 16 ∧ _ / 16 ≤ 255
    omega
theorem decL_ok {b : List Int} (hb : OkB b) : (∀ k, k < (decL b).length → (iAt (decL b) k).ok) := fun k hk => by
  rw [decL_len] at hk
  rw [decL_at b hk]
  exact decI_ok hb hk
/-- What Decode tells: the instructions, a place and an error. -/
def decR (b : List Int) : List Ins × Int × Int :=
  if b.length % 8 ≠ 0 ∨ fitsB (b.length / 8 : Nat) = false then ([], 0, 70)
  else if (chk (decL b)).2 = 0 then (decL b, 0, 0) else ([], chk (decL b))
/-- The bytes of an instruction. -/
def encI (x : Ins) : List Int := [x.op, x.dst + 16 * x.src, x.off % 256, x.off / 256 % 256, x.imm % 256, x.imm / 256 % 256, x.imm / 65536 % 256, x.imm / 16777216 % 256]
def encL (l : List Ins) : List Int := l.flatMap encI
def encR (l : List Ins) : List Int × Int × Int := if (chk l).2 = 0 then (encL l, 0, 0) else ([], chk l)
theorem encL_len (l : List Ins) : (encL l).length = 8 * l.length := by
  induction l with
  | nil => rfl
  | cons x l ih =>
    show (encI x ++ encL l).length = _
    rw [List.length_append, ih]
    simp [encI]
    omega
theorem encL_at (l : List Ins) (k r : Nat) (h : k < l.length) (hr : r < 8) : bAt (encL l) (k * 8 + r) = bAt (encI (iAt l k)) r := by
  induction l generalizing k with
  | nil => simp at h
  | cons x l ih =>
    have e : encL (x :: l) = encI x ++ encL l := rfl
    have hx : (encI x).length = 8 := rfl
    cases k with
    | zero =>
      unfold bAt iAt
      rw [e, List.getD_eq_getElem?_getD, List.getElem?_append_left (by rw [hx]; omega), ← List.getD_eq_getElem?_getD]
      simp
    | succ k =>
      unfold bAt iAt
      rw [e, List.getD_eq_getElem?_getD, List.getElem?_append_right (by rw [hx]; omega), ← List.getD_eq_getElem?_getD, hx]
      have := ih k (by simpa using h)
      unfold bAt iAt at this
      rw [show (k + 1) * 8 + r - 8 = k * 8 + r by omega]
      simpa using this

end Go.Proofs.Ytplndcjmbgkcjaa
