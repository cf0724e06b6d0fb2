/-
  Texts, one behind the other: Clones, Flat, Tab10, Tab11.
  Conditions: those that each theorem states.
-/
import Derived.Lib.SliceRun
import Derived.Maps.AppendAt
import Derived.Test.YtfniahmfoigceaaGreatPz2
import Derived.Test.YtfniahmfoigceaaGreatPz8
import Derived.Test.YtfniahmfoigceaaGreatPz1
import Derived.Test.YtfniahmfoigceaaGreatPz6

namespace Go.Proofs.YtfniahmfoigceaaGreat
open Go.RowKit
set_option maxRecDepth 100000
set_option linter.unusedVariables false
set_option linter.unusedSimpArgs false

/-- A row that was copied: in a block of the call's own. -/
def CloneW (e : TypeId) (size n : Nat) (cells : List Value) (w : World) (en : Ending) (w' : World) : Prop := ∃ A' c', en = .returned (.slice A' n c') ∧ w'.ownsRow w.heap.size e size (.slice A' n c') n cells ∧ Below w.heap.size w w'
theorem own_empty (w : World) (e : TypeId) (size : Nat) : (w.alloc (.cells #[] e)).ownsRow w.heap.size e size (.slice (some ⟨w.heap.size, 0, none⟩) 0 0) 0 [] :=
  ⟨by simp, .inr ⟨w.heap.size, 0, #[], rfl, Nat.le_refl _, Blk.new w #[] e rfl, Nat.le_refl _, Nat.zero_le _, by simp, by simp⟩⟩
theorem below_own0 {w w4 : World} {e : TypeId} {size : Nat} (h : (w.alloc (.cells #[] e)).grownBy w4 (Value.slice (some ⟨w.heap.size, 0, none⟩) 0 0).ownBlock) : Below w.heap.size w w4 := by
  have b1 := below_alloc (Below.refl w.heap.size w) (.cells #[] e)
  have asz : (w.alloc (.cells #[] e)).heap.size = w.heap.size + 1 := by simp
  refine ⟨h.os.trans b1.os, h.tape.trans b1.tape, h.output.trans b1.output, Nat.le_trans b1.size h.size, fun k hk => (h.block k (by omega) (fun e => ?_)).trans (b1.block k hk)⟩
  have e3 : k = w.heap.size := by simpa [Value.ownBlock] using e
  omega
set_option maxHeartbeats 1000000 in
theorem clone_insn (w : World) (A : Option Addr) (n c : Nat) (cells : List Value) (hlen : cells.length = n * 5) (hnews : ∀ a, A = some a → ∀ j u, cells[j]? = some u → w.cell? (a.add j) = some u) (hone : ∀ u ∈ cells, u.oneCell' = true) (hA : A = none → n = 0) (hn : n ≤ 1000000) (hnc : n ≤ c) (hc : c ≤ maxLen) :
    Calls Tryz.prog 25 #[.slice A n c] w (CloneW 64 5 n cells w) := by
  obtain ⟨i1, hi1, hz, hs, hby⟩ := info_parts (show (Tryz.prog.info? 64).map (fun i => (i.zero, i.size, i.bytes)) = some (some (.agg #[.int .u8 0, .int .u8 0, .int .u8 0, .int .i16 0, .int .i32 0]), 5, 12) by kernel_rfl)
  unfold maxLen at hc
  have hnil : ∀ u, (binOp BinOp.eql 22 (.slice A n c) (.slice none 0 0)).run Tryz.prog u = .ok (.bool A.isNone) u := fun u => Lib.run_eql_slice_nil u _ _ _ _ _ _ _ Tryz.underlying22
  cases A with
  | none =>
    have h0 := hA rfl
    subst h0
    have hcells : cells = [] := List.eq_nil_of_length_eq_zero (by omega)
    subst hcells
    clear hnews hone hA hlen
    go_enter Tryz.func25, Tryz.ntmps25
    go_wp2_with fail
    go_ret
    exact ⟨none, 0, rfl, World.ownsRow_nil _ _ _ _, Below.refl _ _⟩
  | some a =>
    have b1 := below_alloc (Below.refl w.heap.size w) (.cells #[] 64)
    have asz : (w.alloc (.cells #[] 64)).heap.size = w.heap.size + 1 := by simp
    obtain ⟨v', w4, hr, ho, hg, _⟩ := run_append_own_at (P := Tryz.prog) (w := w.alloc (.cells #[] 64)) w.heap.size 22 22 64 i1 (.agg #[.int .u8 0, .int .u8 0, .int .u8 0, .int .i16 0, .int .i32 0]) 5 12 Tryz.underlying22 hi1 hz hs hby rfl (by omega) _ _ _ (own_empty w _ 5) a n c cells hlen
      (fun j u hu => cell_on (hnews a rfl j u hu) b1) hone (by unfold maxLen; omega) (by omega) (by omega)
    rw [Nat.zero_add, List.nil_append] at ho
    obtain ⟨A3, c3, rfl, _, _⟩ := own_slice ho
    have FIN := Lib.hid (And.intro ho (below_own0 (size := 5) hg))
    clear ho hg b1 asz hnews hone hA hlen
    go_enter Tryz.func25, Tryz.ntmps25
    go_wp2_with ((at_builtin; refine Lib.wpList_append_run _ rfl (.tmp 5) (.tmp 6) _ _ rfl _ _ rfl rfl _ _ hr ?_))
    go_ret
    exact ⟨_, _, rfl, FIN.out.1, FIN.out.2⟩
set_option maxHeartbeats 1000000 in
theorem clone_def (w : World) (A : Option Addr) (n c : Nat) (cells : List Value) (hlen : cells.length = n * 4) (hnews : ∀ a, A = some a → ∀ j u, cells[j]? = some u → w.cell? (a.add j) = some u) (hone : ∀ u ∈ cells, u.oneCell' = true) (hA : A = none → n = 0) (hn : n ≤ 1000000) (hnc : n ≤ c) (hc : c ≤ maxLen) :
    Calls Tryz.prog 26 #[.slice A n c] w (CloneW 75 4 n cells w) := by
  obtain ⟨i1, hi1, hz, hs, hby⟩ := info_parts (show (Tryz.prog.info? 75).map (fun i => (i.zero, i.size, i.bytes)) = some (some (.agg #[.bool false, .int .i64 0, .int .i64 0, .int .i64 0]), 4, 32) by kernel_rfl)
  unfold maxLen at hc
  have hnil : ∀ u, (binOp BinOp.eql 24 (.slice A n c) (.slice none 0 0)).run Tryz.prog u = .ok (.bool A.isNone) u := fun u => Lib.run_eql_slice_nil u _ _ _ _ _ _ _ Tryz.underlying24
  cases A with
  | none =>
    have h0 := hA rfl
    subst h0
    have hcells : cells = [] := List.eq_nil_of_length_eq_zero (by omega)
    subst hcells
    clear hnews hone hA hlen
    go_enter Tryz.func26, Tryz.ntmps26
    go_wp2_with fail
    go_ret
    exact ⟨none, 0, rfl, World.ownsRow_nil _ _ _ _, Below.refl _ _⟩
  | some a =>
    have b1 := below_alloc (Below.refl w.heap.size w) (.cells #[] 75)
    have asz : (w.alloc (.cells #[] 75)).heap.size = w.heap.size + 1 := by simp
    obtain ⟨v', w4, hr, ho, hg, _⟩ := run_append_own_at (P := Tryz.prog) (w := w.alloc (.cells #[] 75)) w.heap.size 24 24 75 i1 (.agg #[.bool false, .int .i64 0, .int .i64 0, .int .i64 0]) 4 32 Tryz.underlying24 hi1 hz hs hby rfl (by omega) _ _ _ (own_empty w _ 4) a n c cells hlen
      (fun j u hu => cell_on (hnews a rfl j u hu) b1) hone (by unfold maxLen; omega) (by omega) (by omega)
    rw [Nat.zero_add, List.nil_append] at ho
    obtain ⟨A3, c3, rfl, _, _⟩ := own_slice ho
    have FIN := Lib.hid (And.intro ho (below_own0 (size := 4) hg))
    clear ho hg b1 asz hnews hone hA hlen
    go_enter Tryz.func26, Tryz.ntmps26
    go_wp2_with ((at_builtin; refine Lib.wpList_append_run _ rfl (.tmp 5) (.tmp 6) _ _ rfl _ _ rfl rfl _ _ hr ?_))
    go_ret
    exact ⟨_, _, rfl, FIN.out.1, FIN.out.2⟩
set_option maxHeartbeats 1000000 in
theorem clone_num (w : World) (A : Option Addr) (n c : Nat) (cells : List Value) (hlen : cells.length = n * 1) (hnews : ∀ a, A = some a → ∀ j u, cells[j]? = some u → w.cell? (a.add j) = some u) (hone : ∀ u ∈ cells, u.oneCell' = true) (hA : A = none → n = 0) (hn : n ≤ 1000000) (hnc : n ≤ c) (hc : c ≤ maxLen) :
    Calls Tryz.prog 27 #[.slice A n c] w (CloneW 42 1 n cells w) := by
  obtain ⟨i1, hi1, hz, hs, hby⟩ := info_parts (show (Tryz.prog.info? 42).map (fun i => (i.zero, i.size, i.bytes)) = some (some (.int .u64 0), 1, 8) by kernel_rfl)
  unfold maxLen at hc
  have hnil : ∀ u, (binOp BinOp.eql 26 (.slice A n c) (.slice none 0 0)).run Tryz.prog u = .ok (.bool A.isNone) u := fun u => Lib.run_eql_slice_nil u _ _ _ _ _ _ _ Tryz.underlying26
  cases A with
  | none =>
    have h0 := hA rfl
    subst h0
    have hcells : cells = [] := List.eq_nil_of_length_eq_zero (by omega)
    subst hcells
    clear hnews hone hA hlen
    go_enter Tryz.func27, Tryz.ntmps27
    go_wp2_with fail
    go_ret
    exact ⟨none, 0, rfl, World.ownsRow_nil _ _ _ _, Below.refl _ _⟩
  | some a =>
    have b1 := below_alloc (Below.refl w.heap.size w) (.cells #[] 42)
    have asz : (w.alloc (.cells #[] 42)).heap.size = w.heap.size + 1 := by simp
    obtain ⟨v', w4, hr, ho, hg, _⟩ := run_append_own_at (P := Tryz.prog) (w := w.alloc (.cells #[] 42)) w.heap.size 26 26 42 i1 (.int .u64 0) 1 8 Tryz.underlying26 hi1 hz hs hby rfl (by omega) _ _ _ (own_empty w _ 1) a n c cells hlen
      (fun j u hu => cell_on (hnews a rfl j u hu) b1) hone (by unfold maxLen; omega) (by omega) (by omega)
    rw [Nat.zero_add, List.nil_append] at ho
    obtain ⟨A3, c3, rfl, _, _⟩ := own_slice ho
    have FIN := Lib.hid (And.intro ho (below_own0 (size := 1) hg))
    clear ho hg b1 asz hnews hone hA hlen
    go_enter Tryz.func27, Tryz.ntmps27
    go_wp2_with ((at_builtin; refine Lib.wpList_append_run _ rfl (.tmp 5) (.tmp 6) _ _ rfl _ _ rfl rfl _ _ hr ?_))
    go_ret
    exact ⟨_, _, rfl, FIN.out.1, FIN.out.2⟩
set_option maxHeartbeats 1000000 in
theorem clone_called (w : World) (A : Option Addr) (n c : Nat) (cells : List Value) (hlen : cells.length = n * 6) (hnews : ∀ a, A = some a → ∀ j u, cells[j]? = some u → w.cell? (a.add j) = some u) (hone : ∀ u ∈ cells, u.oneCell' = true) (hA : A = none → n = 0) (hn : n ≤ 1000000) (hnc : n ≤ c) (hc : c ≤ maxLen) :
    Calls Tryz.prog 83 #[.slice A n c] w (CloneW 59 6 n cells w) := by
  obtain ⟨i1, hi1, hz, hs, hby⟩ := info_parts (show (Tryz.prog.info? 59).map (fun i => (i.zero, i.size, i.bytes)) = some (some (.agg #[.int .i64 0, .int .i64 0, .slice none 0 0, .slice none 0 0, .slice none 0 0, .int .u64 0]), 6, 96) by kernel_rfl)
  unfold maxLen at hc
  have hnil : ∀ u, (binOp BinOp.eql 47 (.slice A n c) (.slice none 0 0)).run Tryz.prog u = .ok (.bool A.isNone) u := fun u => Lib.run_eql_slice_nil u _ _ _ _ _ _ _ Tryz.underlying47
  cases A with
  | none =>
    have h0 := hA rfl
    subst h0
    have hcells : cells = [] := List.eq_nil_of_length_eq_zero (by omega)
    subst hcells
    clear hnews hone hA hlen
    go_enter Tryz.func83, Tryz.ntmps83
    go_wp2_with fail
    go_ret
    exact ⟨none, 0, rfl, World.ownsRow_nil _ _ _ _, Below.refl _ _⟩
  | some a =>
    have b1 := below_alloc (Below.refl w.heap.size w) (.cells #[] 59)
    have asz : (w.alloc (.cells #[] 59)).heap.size = w.heap.size + 1 := by simp
    obtain ⟨v', w4, hr, ho, hg, _⟩ := run_append_own_at (P := Tryz.prog) (w := w.alloc (.cells #[] 59)) w.heap.size 47 47 59 i1 (.agg #[.int .i64 0, .int .i64 0, .slice none 0 0, .slice none 0 0, .slice none 0 0, .int .u64 0]) 6 96 Tryz.underlying47 hi1 hz hs hby rfl (by omega) _ _ _ (own_empty w _ 6) a n c cells hlen
      (fun j u hu => cell_on (hnews a rfl j u hu) b1) hone (by unfold maxLen; omega) (by omega) (by omega)
    rw [Nat.zero_add, List.nil_append] at ho
    obtain ⟨A3, c3, rfl, _, _⟩ := own_slice ho
    have FIN := Lib.hid (And.intro ho (below_own0 (size := 6) hg))
    clear ho hg b1 asz hnews hone hA hlen
    go_enter Tryz.func83, Tryz.ntmps83
    go_wp2_with ((at_builtin; refine Lib.wpList_append_run _ rfl (.tmp 5) (.tmp 6) _ _ rfl _ _ rfl rfl _ _ hr ?_))
    go_ret
    exact ⟨_, _, rfl, FIN.out.1, FIN.out.2⟩
set_option maxHeartbeats 1000000 in
theorem clone_byte (w : World) (A : Option Addr) (n c : Nat) (cells : List Value) (hlen : cells.length = n * 1) (hnews : ∀ a, A = some a → ∀ j u, cells[j]? = some u → w.cell? (a.add j) = some u) (hone : ∀ u ∈ cells, u.oneCell' = true) (hA : A = none → n = 0) (hn : n ≤ 1000000) (hnc : n ≤ c) (hc : c ≤ maxLen) :
    Calls Tryz.prog 84 #[.slice A n c] w (CloneW 5 1 n cells w) := by
  obtain ⟨i1, hi1, hz, hs, hby⟩ := info_parts (show (Tryz.prog.info? 5).map (fun i => (i.zero, i.size, i.bytes)) = some (some (.int .u8 0), 1, 1) by kernel_rfl)
  unfold maxLen at hc
  have hnil : ∀ u, (binOp BinOp.eql 23 (.slice A n c) (.slice none 0 0)).run Tryz.prog u = .ok (.bool A.isNone) u := fun u => Lib.run_eql_slice_nil u _ _ _ _ _ _ _ Tryz.underlying23
  cases A with
  | none =>
    have h0 := hA rfl
    subst h0
    have hcells : cells = [] := List.eq_nil_of_length_eq_zero (by omega)
    subst hcells
    clear hnews hone hA hlen
    go_enter Tryz.func84, Tryz.ntmps84
    go_wp2_with fail
    go_ret
    exact ⟨none, 0, rfl, World.ownsRow_nil _ _ _ _, Below.refl _ _⟩
  | some a =>
    have b1 := below_alloc (Below.refl w.heap.size w) (.cells #[] 5)
    have asz : (w.alloc (.cells #[] 5)).heap.size = w.heap.size + 1 := by simp
    obtain ⟨v', w4, hr, ho, hg, _⟩ := run_append_own_at (P := Tryz.prog) (w := w.alloc (.cells #[] 5)) w.heap.size 23 23 5 i1 (.int .u8 0) 1 1 Tryz.underlying23 hi1 hz hs hby rfl (by omega) _ _ _ (own_empty w _ 1) a n c cells hlen
      (fun j u hu => cell_on (hnews a rfl j u hu) b1) hone (by unfold maxLen; omega) (by omega) (by omega)
    rw [Nat.zero_add, List.nil_append] at ho
    obtain ⟨A3, c3, rfl, _, _⟩ := own_slice ho
    have FIN := Lib.hid (And.intro ho (below_own0 (size := 1) hg))
    clear ho hg b1 asz hnews hone hA hlen
    go_enter Tryz.func84, Tryz.ntmps84
    go_wp2_with ((at_builtin; refine Lib.wpList_append_run _ rfl (.tmp 5) (.tmp 6) _ _ rfl _ _ rfl rfl _ _ hr ?_))
    go_ret
    exact ⟨_, _, rfl, FIN.out.1, FIN.out.2⟩

end Go.Proofs.YtfniahmfoigceaaGreat

namespace Go.Proofs.YtfniahmfoigceaaGreat
open Go Go.RowKit
set_option maxRecDepth 100000
set_option linter.unusedVariables false
set_option linter.unusedSimpArgs false

section
variable {α : Type} {c : α → List Value} {s : Nat}
theorem flat_len (hs : ∀ x, (c x).length = s) (L : List α) : (L.flatMap c).length = L.length * s := by
  induction L with
  | nil => simp
  | cons x L ih =>
    rw [List.flatMap_cons, List.length_append, ih, hs, List.length_cons, Nat.succ_mul]
    omega
theorem flat_at (hs : ∀ x, (c x).length = s) (d : α) (L : List α) (k r : Nat) (hk : k < L.length) (hr : r < s) : (L.flatMap c)[k * s + r]? = (c (L.getD k d))[r]? := by
  induction L generalizing k with
  | nil => simp at hk
  | cons x L ih =>
    rw [List.flatMap_cons]
    cases k with
    | zero =>
      rw [List.getElem?_append_left (by rw [hs]; omega)]
      simp
    | succ k =>
      rw [List.getElem?_append_right (by rw [hs, Nat.succ_mul]; omega), hs]
      have := ih k (by simpa using hk)
      rw [show (k + 1) * s + r - s = k * s + r by rw [Nat.succ_mul]; omega, this]
      simp
theorem flat_news (hs : ∀ x, (c x).length = s) (h0 : 0 < s) (d : α) {L : List α} {w : World} {g o : Nat} (h : ∀ k, k < L.length → ∀ r, r < s → w.cell? ⟨g, o + k * s + r, none⟩ = (c (L.getD k d))[r]?) :
    ∀ j u, (L.flatMap c)[j]? = some u → w.cell? ((⟨g, o, none⟩ : Addr).add j) = some u := by
  intro j u hu
  have hadd : (⟨g, o, none⟩ : Addr).add j = ⟨g, o + j, none⟩ := by unfold Addr.add; split <;> simp_all
  have hj : j < L.length * s := by
    rcases Nat.lt_or_ge j (L.length * s) with k | k
    · exact k
    · rw [List.getElem?_eq_none (by rw [flat_len hs]; exact k)] at hu; cases hu
  have e1 : j = j / s * s + j % s := by rw [Nat.mul_comm]; exact (Nat.div_add_mod j s).symm
  have hk : j / s < L.length := (Nat.div_lt_iff_lt_mul h0).2 hj
  have hr := Nat.mod_lt j h0
  have q := h (j / s) hk (j % s) hr
  have q2 := flat_at hs d L (j / s) (j % s) hk hr
  rw [← e1, hu] at q2
  rw [hadd, show o + j = o + j / s * s + j % s by omega, q, ← q2]
theorem own_flat (hs : ∀ x, (c x).length = s) (d : α) {L : List α} {w : World} {B : Nat} {e : TypeId} {A : Option Addr} {n cp : Nat} (ho : w.ownsRow B e s (.slice A n cp) n (L.flatMap c)) (hn : n = L.length) (h0 : 0 < L.length) :
    ∃ g, A = some ⟨g, 0, none⟩ ∧ g < w.heap.size ∧ ∀ k, k < L.length → ∀ r, r < s → w.cell? ⟨g, 0 + k * s + r, none⟩ = (c (L.getD k d))[r]? := by
  obtain ⟨g, rfl, _, hg⟩ := own_addr ho (by omega)
  refine ⟨g, rfl, hg, fun k hk r hr => ?_⟩
  have hlt : k * s + r < n * s := by
    have : (k + 1) * s ≤ n * s := Nat.mul_le_mul_right s (by omega)
    rw [Nat.succ_mul] at this
    omega
  rw [Nat.zero_add, ho.cellAt _ hlt, flat_at hs d L k r hk hr]
end

end Go.Proofs.YtfniahmfoigceaaGreat

namespace Go.Proofs.YtfniahmfoigceaaGreat
open Go.RowKit
set_option maxRecDepth 100000
set_option linter.unusedVariables false
set_option linter.unusedSimpArgs false

def gK (d : Df) : Bool := d.key == 4 || (d.hash && decide (1 ≤ d.key) && decide (d.key ≤ 16))
def gV (d : Df) : Bool := decide (8 ≤ d.val) && decide (d.val ≤ 64) && (d.val % 8 == 0)
def gM (d : Df) : Bool := decide (1 ≤ d.max) && decide (d.max ≤ 16)
theorem good_is (d : Df) : d.good = (gK d && gV d && gM d) := by
  unfold Df.good gK gV gM
  cases d.hash
  · simp only [Bool.false_eq_true, if_false, Bool.false_and, Bool.or_false, Bool.and_assoc]
  · simp only [if_true, Bool.true_and, Bool.and_assoc]
    by_cases h : d.key = 4
    · rw [h]; rfl
    · have : (d.key == 4) = false := by simpa using h
      rw [this]; simp [Bool.and_assoc]

set_option maxHeartbeats 8000000 in
theorem q9_isWrong (d : Df) (w : World) : Calls Tryz.prog 95 #[.agg #[.bool d.hash, .int .i64 d.key, .int .i64 d.val, .int .i64 d.max]] w (Gives (.bool (!d.good)) w) := by
  obtain ⟨h, k, v, m⟩ := d
  have HG : Hid ((!(Df.good ⟨h, k, v, m⟩)) = !(gK ⟨h, k, v, m⟩ && gV ⟨h, k, v, m⟩ && gM ⟨h, k, v, m⟩)) := Lib.hid (by rw [good_is])
  have KC : ((k == 4) = true ∧ Hid (gK ⟨h, k, v, m⟩ = true)) ∨ ((k == 4) = false ∧ h = false ∧ Hid (gK ⟨h, k, v, m⟩ = false)) ∨ ((k == 4) = false ∧ h = true ∧ k < 1 ∧ Hid (gK ⟨h, k, v, m⟩ = false)) ∨ ((k == 4) = false ∧ h = true ∧ (1 ≤ k ∧ k ≤ 16) ∧ Hid (gK ⟨h, k, v, m⟩ = true)) ∨ ((k == 4) = false ∧ h = true ∧ (1 ≤ k ∧ 16 < k) ∧ Hid (gK ⟨h, k, v, m⟩ = false)) := by
    unfold gK
    cases h4 : (k == 4)
    · cases h
      · exact .inr (.inl ⟨rfl, rfl, Lib.hid (by simp [h4])⟩)
      · rcases int_lt_or k 1 with a | a
        · exact .inr (.inr (.inl ⟨rfl, rfl, a, Lib.hid (by simp [h4]; omega)⟩))
        · rcases int_lt_or 16 k with b | b
          · exact .inr (.inr (.inr (.inr ⟨rfl, rfl, ⟨a, b⟩, Lib.hid (by simp [h4]; omega)⟩)))
          · exact .inr (.inr (.inr (.inl ⟨rfl, rfl, ⟨a, b⟩, Lib.hid (by simp [h4]; omega)⟩)))
    · exact .inl ⟨rfl, Lib.hid (by simp [h4])⟩
  have htm : v.tmod 8 = 0 ∨ True := .inr trivial
  have VC : (v < 8 ∧ Hid (gV ⟨h, k, v, m⟩ = false)) ∨ ((8 ≤ v ∧ 64 < v) ∧ Hid (gV ⟨h, k, v, m⟩ = false)) ∨ ((8 ≤ v ∧ v ≤ 64) ∧ (v.tmod 8 = v % 8 ∧ (v % 8 == 0) = false) ∧ Hid (gV ⟨h, k, v, m⟩ = false)) ∨ ((8 ≤ v ∧ v ≤ 64) ∧ (v.tmod 8 = v % 8 ∧ (v % 8 == 0) = true) ∧ Hid (gV ⟨h, k, v, m⟩ = true)) := by
    unfold gV
    rcases int_lt_or v 8 with a | a
    · exact .inl ⟨a, Lib.hid (by simp; omega)⟩
    · rcases int_lt_or 64 v with b | b
      · exact .inr (.inl ⟨⟨a, b⟩, Lib.hid (by simp; omega)⟩)
      · have ht : v.tmod 8 = v % 8 := Int.tmod_eq_emod_of_nonneg (by omega)
        cases h8 : (v % 8 == 0)
        · exact .inr (.inr (.inl ⟨⟨a, b⟩, ⟨ht, rfl⟩, Lib.hid (by simp [h8])⟩))
        · exact .inr (.inr (.inr ⟨⟨a, b⟩, ⟨ht, rfl⟩, Lib.hid (by simp [h8]; omega)⟩))
  have MC : (m < 1 ∧ Hid (gM ⟨h, k, v, m⟩ = false)) ∨ ((1 ≤ m ∧ 16 < m) ∧ Hid (gM ⟨h, k, v, m⟩ = false)) ∨ ((1 ≤ m ∧ m ≤ 16) ∧ Hid (gM ⟨h, k, v, m⟩ = true)) := by
    unfold gM
    rcases int_lt_or m 1 with a | a
    · exact .inl ⟨a, Lib.hid (by simp; omega)⟩
    · rcases int_lt_or 16 m with b | b
      · exact .inr (.inl ⟨⟨a, b⟩, Lib.hid (by simp; omega)⟩)
      · exact .inr (.inr ⟨⟨a, b⟩, Lib.hid (by simp; omega)⟩)
  clear htm
  generalize (!(Df.good ⟨h, k, v, m⟩)) = ans at *
  generalize gK ⟨h, k, v, m⟩ = bk at *
  generalize gV ⟨h, k, v, m⟩ = bv at *
  generalize gM ⟨h, k, v, m⟩ = bm at *
  rcases KC with ⟨k1, K⟩ | ⟨k1, rfl, K⟩ | ⟨k1, rfl, k2, K⟩ | ⟨k1, rfl, ⟨k2, k3⟩, K⟩ | ⟨k1, rfl, ⟨k2, k3⟩, K⟩ <;>
  rcases VC with ⟨v1, V⟩ | ⟨⟨v1, v2⟩, V⟩ | ⟨⟨v1, v2⟩, ⟨v3, v4⟩, V⟩ | ⟨⟨v1, v2⟩, ⟨v3, v4⟩, V⟩ <;>
  rcases MC with ⟨m1, MM⟩ | ⟨⟨m1, m2⟩, MM⟩ | ⟨⟨m1, m2⟩, MM⟩ <;>
  (go_enter Tryz.func95, Tryz.ntmps95
   go_wp2_with fail
   go_ret
   exact ⟨end_bool (by rw [HG.out, K.out, V.out, MM.out]; first | rfl | (simp; omega)), below_alloc (Below.refl _ _) _⟩)

end Go.Proofs.YtfniahmfoigceaaGreat

namespace Go.Proofs.YtfniahmfoigceaaGreat
open Go.RowKit
set_option maxRecDepth 100000
set_option linter.unusedVariables false
set_option linter.unusedSimpArgs false

theorem dec_not (r : Int) : decide (0 ≤ r) = !decide (r < 0) := by
  by_cases h : r < 0
  · rw [decide_eq_true h, decide_eq_false (by omega)]; rfl
  · rw [decide_eq_false h, decide_eq_true (by omega)]; rfl
set_option maxHeartbeats 4000000 in
theorem q9_Index (w : World) (A : Option Addr) (c : Nat) (l : List Df) (hl : DefS w A l) (hlc : l.length ≤ c) (hcm : c ≤ maxLen) (h8 : l.length ≤ 8) :
    Calls Tryz.prog 142 #[.slice A l.length c, .func (.func 95) #[] #[]] w (fun e w' => ∃ r : Int, e = .returned (.int .i64 r) ∧ Hid (l.all Df.good = decide (r < 0)) ∧ (r < 0 ∨ 0 ≤ r) ∧ Hid (Below w.heap.size w w')) := by
  have HALL := Lib.hid (fun h => all_from (l := l) h)
  have HNOT := Lib.hid (fun j h1 h2 => all_not (l := l) (j := j) h1 h2)
  have HL := Lib.hid hl
  have HIW := Lib.hid fun (d : Df) (u : World) => q9_isWrong d u
  clear hl
  unfold maxLen at hcm
  generalize hn : l.length = n at *
  have HN := Lib.hid hn
  clear hn
  go_enter Tryz.func142, Tryz.ntmps142
  go_wp2_with fail
  go_loopw [8] (fun iv wr => ∃ j : Nat, iv = .int .i64 j ∧ j ≤ n ∧ Hid (∀ t, t < j → (dAt l t).good = true) ∧ Hid (Below w.heap.size w wr)) (fun iv wr => n - (intOf iv).toNat)
  case atStart => exact ⟨0, rfl, by omega, Lib.hid fun t ht => by omega, Lib.hid (Below.refl _ _)⟩
  case round =>
    obtain ⟨j, rfl, hj, HT, V⟩ := hrel
    have j0 : (0 : Int) ≤ j := by omega
    by_cases hlt : (j : Int) < n
    · have hjn : j < n := by omega
      obtain ⟨g, o, rfl, hg, hc⟩ := HL.out.after V.out (by rw [HN.out]; exact Nat.lt_of_le_of_lt (Nat.zero_le _) hjn)
      obtain ⟨c0, c1, c2, c3⟩ := hc j (by rw [HN.out]; exact hjn)
      have IW : Hid (∀ u, Calls Tryz.prog 95 #[.agg #[.bool (dAt l j).hash, .int .i64 (dAt l j).key, .int .i64 (dAt l j).val, .int .i64 (dAt l j).max]] u (Gives (.bool (!(dAt l j).good)) u)) := Lib.hid fun u => HIW.out (dAt l j) u
      have BAD : Hid ((dAt l j).good = false → l.all Df.good = decide ((j : Int) < 0)) := Lib.hid fun h => by rw [HNOT.out j hjn h, decide_eq_false (by omega)]
      have NEXT : Hid ((dAt l j).good = true → ∀ t, t < j + 1 → (dAt l t).good = true) := Lib.hid fun h t ht => by
        by_cases e : t = j
        · rw [e]; exact h
        · exact HT.out t (by omega)
      clear hc HIW
      generalize (dAt l j).hash = hh at *
      generalize (dAt l j).key = key at *
      generalize (dAt l j).val = val at *
      generalize (dAt l j).max = mx at *
      go_wp2_with fail
      cases hgd : (dAt l j).good
      · rw [hgd] at IW
        replace BAD := Lib.hid (BAD.out hgd)
        refine (IW.out _).mono ?_
        rintro e w1 ⟨rfl, b1⟩
        replace V := Lib.hid (below_next' V.out b1)
        clear b1
        simp only [Bool.not_false]
        go_wp2_with fail
        go_ret
        exact ⟨j, rfl, BAD, .inr (by omega), V⟩
      · rw [hgd] at IW
        replace NEXT := Lib.hid (NEXT.out hgd)
        refine (IW.out _).mono ?_
        rintro e w1 ⟨rfl, b1⟩
        replace V := Lib.hid (below_next' V.out b1)
        clear b1
        simp only [Bool.not_true]
        go_wp2_with fail
        go_round
        case rel => exact ⟨j + 1, by go_num, by omega, NEXT, V⟩
        case measure => simp [intOf]; omega
    · have hjn : j = n := by omega
      subst hjn
      have HA : Hid (l.all Df.good = decide ((-1 : Int) < 0)) := Lib.hid (by
        rw [HALL.out HT.out]
        rfl)
      go_wp2_with fail
      go_ret
      exact ⟨-1, rfl, HA, .inl (by omega), V⟩

set_option maxHeartbeats 2000000 in
theorem q9_Contains (w : World) (A : Option Addr) (c : Nat) (l : List Df) (hl : DefS w A l) (hlc : l.length ≤ c) (hcm : c ≤ maxLen) (h8 : l.length ≤ 8) :
    Calls Tryz.prog 94 #[.slice A l.length c, .func (.func 95) #[] #[]] w (Gives (.bool (!(l.all Df.good))) w) := by
  have IX := Lib.hid (q9_Index w A c l hl hlc hcm h8)
  clear hl
  generalize l.length = n at *
  generalize l.all Df.good = ag at *
  go_enter Tryz.func94, Tryz.ntmps94
  go_wp2_with fail
  refine (IX.out).mono ?_
  rintro e w1 ⟨r, rfl, HA, hr, V⟩
  rcases hr with hr | hr
  · go_wp2_with fail
    go_ret
    exact ⟨end_bool (by rw [HA.out]; first | rfl | exact dec_not r | (rw [decide_eq_false (show ¬ r < 0 by omega)]; rfl) | (rw [decide_eq_true (show r < 0 by omega)]; rfl)), V.out⟩
  · go_wp2_with fail
    go_ret
    exact ⟨end_bool (by rw [HA.out]; first | rfl | exact dec_not r | (rw [decide_eq_false (show ¬ r < 0 by omega)]; rfl) | (rw [decide_eq_true (show r < 0 by omega)]; rfl)), V.out⟩

set_option maxHeartbeats 2000000 in
theorem q9_Right (w : World) (A : Option Addr) (c : Nat) (l : List Df) (hl : DefS w A l) (hlc : l.length ≤ c) (hcm : c ≤ maxLen) : Calls Tryz.prog 50 #[.slice A l.length c] w (Gives (.bool (tRight l)) w) := by
  have HR : Hid (tRight l = (l.all Df.good && decide (l.length ≤ 8))) := Lib.hid rfl
  by_cases h8 : l.length ≤ 8
  · have IX := Lib.hid (q9_Contains w A c l hl hlc hcm h8)
    have h8' : (l.length : Int) ≤ 8 := by omega
    clear hl
    rw [decide_eq_true h8, Bool.and_true] at HR
    rw [HR.out]
    generalize l.length = n at *
    generalize l.all Df.good = ag at *
    unfold maxLen at hcm
    go_enter Tryz.func50, Tryz.ntmps50
    go_wp2_with fail
    refine (IX.out).mono ?_
    rintro e w1 ⟨rfl, b1⟩
    have V := Lib.hid b1
    clear b1
    go_wp2_with fail
    go_ret
    exact ⟨end_bool (by cases ag <;> rfl), V.out⟩
  · have h8' : 8 < (l.length : Int) := by omega
    rw [decide_eq_false h8, Bool.and_false] at HR
    rw [HR.out]
    clear hl
    generalize l.length = n at *
    unfold maxLen at hcm
    go_enter Tryz.func50, Tryz.ntmps50
    go_wp2_with fail
    go_ret
    exact ⟨rfl, Below.refl _ _⟩

end Go.Proofs.YtfniahmfoigceaaGreat
