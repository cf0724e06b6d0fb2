/-
  Layer 8, the program's small functions: own, At, isOfNumber.
  Conditions: the numbers fit their kinds.
-/
import Derived.Test.YtempkpfcjonaaaaMem1
import Derived.Laws.CopyOwn
import Derived.LoopTactic
namespace Go.Proofs.Ytempkpfcjonaaaa
open Go.RowKit
set_option maxRecDepth 100000
set_option linter.unusedVariables false
set_option linter.unusedSimpArgs false

/-- Bytes made, each 0. -/
theorem make_bytes (w : World) (n : Nat) (hn : n ≤ 100000) : (Instr.makeSlice 40 (.int .i64 (n : Int)) (.int .i64 (n : Int))).run Try.prog w = .ok (.slice (some ⟨w.heap.size, 0, none⟩) n n) (w.alloc (.cells (byC (List.replicate n 0)).toArray 5)) := by
  obtain ⟨i, hi, hz, h1, h2⟩ := info_parts (show (Try.prog.info? 5).map (fun i => (i.zero, i.size, i.bytes)) = some (some (.int .u8 0), 1, 1) by kernel_rfl)
  have hr := run_make (P := Try.prog) w 40 5 i (.int .u8 0) Try.underlying40 hi hz .i64 .i64 n n (by omega) (Int.le_refl _) (by rw [h2]; omega) (by omega)
  rw [hr, h1]
  simp only [Int.toNat_natCast, Nat.mul_one]
  have e : madeCells (Value.int .u8 0).cells n = (byC (List.replicate n 0)).toArray := by
    apply Array.ext'
    rw [byC_zeros]
    exact toList_madeCells_one _ _
  rw [e]
/-- Bools made, none of them set. -/
theorem make_bools (w : World) (n : Nat) (hn : n ≤ 100000) : (Instr.makeSlice 94 (.int .i64 (n : Int)) (.int .i64 (n : Int))).run Try.prog w = .ok (.slice (some ⟨w.heap.size, 0, none⟩) n n) (w.alloc (.cells (boC (List.replicate n false)).toArray 4)) := by
  obtain ⟨i, hi, hz, h1, h2⟩ := info_parts (show (Try.prog.info? 4).map (fun i => (i.zero, i.size, i.bytes)) = some (some (.bool false), 1, 1) by kernel_rfl)
  have hr := run_make (P := Try.prog) w 94 4 i (.bool false) Try.underlying94 hi hz .i64 .i64 n n (by omega) (Int.le_refl _) (by rw [h2]; omega) (by omega)
  rw [hr, h1]
  simp only [Int.toNat_natCast, Nat.mul_one]
  have e : madeCells (Value.bool false).cells n = (boC (List.replicate n false)).toArray := by
    apply Array.ext'
    rw [show boC (List.replicate n false) = List.replicate n (.bool false) by simp [boC]]
    exact toList_madeCells_one _ _
  rw [e]
/-- A row that fills its block. -/
theorem own_full {w : World} {g n base : Nat} {e : TypeId} {xs : List Value} (h : w.heap[g]? = some (.cells xs.toArray e (0, 0))) (hx : xs.length = n) (hn : n ≤ 100000) (hb : base ≤ g) : w.ownsRow base e 1 (.slice (some ⟨g, 0, none⟩) n n) n xs :=
  ⟨by rw [hx]; omega, .inr ⟨g, n, _, rfl, hb, h, Nat.le_refl _, by unfold maxLen; omega, by simp [hx], by rw [List.take_of_length_le]; simp; omega⟩⟩

set_option maxRecDepth 100000 in
set_option maxHeartbeats 2000000 in
theorem c8_own (w : World) (A : Option Addr) (b : List Int) (n d : Nat) (hb : BytS w A b) (hn : b.length = n) (hs : n ≤ 100000) :
    Calls Try.prog 42 #[.slice A n d] w (fun e w' => ∃ g, e = .returned (.slice (some ⟨g, 0, none⟩) n n) ∧ w'.ownsRow w.heap.size 5 1 (.slice (some ⟨g, 0, none⟩) n n) n (byC b) ∧ Below w.heap.size w w') := by
  have hm := make_bytes w n hs
  have HB := Lib.hid hb
  have HN := Lib.hid hn
  have HS := Lib.hid hs
  clear hb hn
  have HF : Hid (∀ (w' : World) (g : Nat), w'.heap[g]? = some (.cells (splice (byC (List.replicate n 0)) 0 (byC b)).toArray 5 (0, 0)) → w.heap.size ≤ g → w'.ownsRow w.heap.size 5 1 (.slice (some ⟨g, 0, none⟩) n n) n (byC b)) := Lib.hid fun w' g h hg => by
    have e : splice (byC (List.replicate n 0)) 0 (byC b) = byC b := by
      unfold splice
      simp only [List.take_zero, List.nil_append, Nat.zero_add, byC_len, HN.out]
      rw [List.drop_eq_nil_of_le (by rw [byC_len, List.length_replicate]; omega), List.append_nil]
    rw [e] at h
    exact own_full h (by rw [byC_len]; exact HN.out) HS.out hg
  obtain ⟨cs, hcs⟩ : ∃ cs, cs = byC b := ⟨_, rfl⟩
  obtain ⟨zs, hzs⟩ : ∃ zs, zs = byC (List.replicate n 0) := ⟨_, rfl⟩
  rw [← hcs, ← hzs] at HF
  rw [← hcs]
  rw [← hzs] at hm
  have CL : Hid (cs.length = n) := Lib.hid (by rw [hcs, byC_len]; exact HN.out)
  have ZL : Hid (zs.length = n) := Lib.hid (by rw [hzs, byC_len, List.length_replicate])
  have CO : Hid (∀ v ∈ cs, v.oneCell' = true) := Lib.hid (by rw [hcs]; exact byC_one b)
  have SRC : Hid (∀ u : World, Below w.heap.size w u → 0 < cs.length → ∃ ad, A = some ad ∧ ∀ j v, cs[j]? = some v → u.cell? (ad.add j) = some v) := Lib.hid fun u hu hp => by
    rw [hcs, byC_len] at hp
    obtain ⟨g, o, rfl, hg, hc⟩ := HB.out.after hu hp
    refine ⟨_, rfl, fun j v hv => ?_⟩
    rw [hcs] at hv
    exact byt_news ⟨hg, hc⟩ j v hv
  clear hcs hzs HB HN
  have NW : Hid ((w.alloc (.cells zs.toArray 5)).heap[w.heap.size]? = some (.cells zs.toArray 5 (0, 0))) := Lib.hid (Blk.new w zs.toArray 5 rfl)
  have BW : Hid (Below w.heap.size w (w.alloc (.cells zs.toArray 5))) := Lib.hid (below_alloc (Below.refl _ _) _)
  generalize w.alloc (.cells zs.toArray 5) = w1 at *
  go_enter Try.func42, Try.ntmps42
  go_wp2_with ((refine wpList_copy_splice rfl (.tmp 7) (.tmp 8) _ _ rfl 5 Try.underlying40 (by kernel_rfl) _ _ _ _ _ _ rfl rfl w.heap.size 0 zs 5 NW.out cs (by rw [CL.out]; exact (Nat.min_self n).symm) (fun hp => ⟨rfl, SRC.out _ BW.out hp⟩) (by rw [CL.out, ZL.out]; omega) CO.out w.heap.size w BW.out (Nat.le_refl _) ?_))
  intro w2 HG hB
  have V := Lib.hid hB
  clear hB
  go_wp2_with fail
  go_ret
  exact ⟨_, rfl, HF.out _ _ HG.out (Nat.le_refl _), V.out⟩

set_option maxRecDepth 100000 in
theorem c8_isOf (s : Int) (w : World) : Calls Try.prog 47 #[.int .i64 s] w (Gives (.bool (fitsZ s)) w) := by
  unfold fitsZ
  cases h1 : (s == 1) <;> cases h2 : (s == 2) <;> cases h4 : (s == 4) <;> cases h8 : (s == 8) <;>
  (go_enter Try.func47, Try.ntmps47
   go_wp2_with fail
   go_ret
   exact ⟨rfl, Below.refl _ _⟩)
theorem c8_At (a o : Int) (w : World) : Calls Try.prog 26 #[.int .i64 a, .int .i64 o] w (Gives (.int .u64 (atI a o)) w) := by
  go_enter Try.func26, Try.ntmps26
  go_wp2_with fail
  go_ret
  refine ⟨?_, Below.refl _ _⟩
  apply end_int
  unfold atI
  simp only [IntKind.wrap_u64]
  omega

end Go.Proofs.Ytempkpfcjonaaaa
