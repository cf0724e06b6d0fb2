/-
  Texts, one behind the other: Mem5, Mem6.
  Conditions: those that each theorem states.
-/
import Derived.Test.YtlbhffdpklbhfaaGreatPz9
import Derived.BigRegion
namespace Go.Proofs.YtlbhffdpklbhfaaGreat
open Go.RowKit
set_option linter.unusedVariables false
set_option linter.unusedSimpArgs false
set_option maxRecDepth 100000 in
set_option maxHeartbeats 2000000 in
theorem c8_Load_no (w : World) (g : Nat) (at_ s : Int) (hf : fitsZ s = false) :
    Calls Tryz.prog 110 #[.pointer (some ⟨g, 0, none⟩), .int .u64 at_, .int .i64 s] w (Gives (.tuple #[.int .u64 0, .int .i64 1]) w) := by
  have C := Lib.hid (c8_isOf s)
  rw [hf] at C
  clear hf
  go_enter Tryz.func110, Tryz.ntmps110
  go_wp2_with fail
  refine (C.out _).mono ?_
  rintro e w1 ⟨rfl, b1⟩
  have V := Lib.hid b1
  clear b1
  go_wp2_with fail
  go_ret2
  exact ⟨rfl, V.out⟩
set_option maxRecDepth 100000 in
set_option maxHeartbeats 2000000 in
theorem c8_Load_err (w : World) (g : Nat) (M : PM) (F : Nat → Prop) (at_ s : Int) (h : RepP w g M F) (ha : 0 ≤ at_ ∧ at_ ≤ 18446744073709551615) (hf : fitsZ s = true) (he : ((pRead M at_ s).2 == 0) = false) :
    Calls Tryz.prog 110 #[.pointer (some ⟨g, 0, none⟩), .int .u64 at_, .int .i64 s] w (Gives (.tuple #[.int .u64 0, .int .i64 (pRead M at_ s).2]) w) := by
  have C := Lib.hid (c8_isOf s)
  rw [hf] at C
  have D := Lib.hid fun w' (b : Below w.heap.size w w') => c8_Read w' g M F at_ s (h.after b) ha
  have n0 : ((pRead M at_ s).2 != 0) = true := by unfold bne; rw [he]; rfl
  clear hf he
  generalize pRead M at_ s = r at *
  obtain ⟨rb, re⟩ := r
  go_enter Tryz.func110, Tryz.ntmps110
  go_wp2_with fail
  refine (C.out _).mono ?_
  rintro e w1 ⟨rfl, b1⟩
  have V := Lib.hid b1
  clear b1
  go_wp2_with fail
  refine (D.out _ V.out).mono ?_
  rintro e w2 ⟨A, c, rfl, _, _, _, b2⟩
  replace V := Lib.hid (below_next' V.out b2)
  clear b2
  simp only at *
  go_wp2_with fail
  go_ret2
  exact ⟨rfl, V.out⟩
theorem leN_take {l : List Int} {j : Nat} (h : j < l.length) : leN (l.take (j + 1)) = leN (l.take j) + 256 ^ j * bAt l j := by
  induction l generalizing j with
  | nil => simp at h
  | cons x l ih =>
    cases j with
    | zero => simp [leN, bAt]
    | succ j =>
      have := ih (j := j) (by simpa using h)
      show x + 256 * leN (l.take (j + 1)) = x + 256 * leN (l.take j) + 256 ^ (j + 1) * bAt (x :: l) (j + 1)
      rw [this, show bAt (x :: l) (j + 1) = bAt l j by simp [bAt], Int.pow_succ, Int.mul_add, ← Int.mul_assoc, Int.mul_comm 256 (256 ^ j)]
      omega
theorem or_step (x y : Int) (j : Nat) (hj : j ≤ 7) (hx : 0 ≤ x ∧ x < 256 ^ j) (hy : 0 ≤ y ∧ y ≤ 255) : bits .or .u64 x (256 ^ j * y) = x + 256 ^ j * y := by
  have hp : (256 : Int) ^ j = ((2 ^ (8 * j) : Nat) : Int) := by rw [Nat.pow_mul]; simp
  have hq : 2 ^ (8 * j) ≤ 2 ^ 56 := Nat.pow_le_pow_right (by omega) (by omega)
  rw [hp] at hx ⊢
  obtain ⟨yn, rfl⟩ : ∃ yn : Nat, y = yn := ⟨y.toNat, by omega⟩
  obtain ⟨xn, rfl⟩ : ∃ xn : Nat, x = xn := ⟨x.toNat, by omega⟩
  have hb : xn < 2 ^ (8 * j) := by omega
  have hm : 2 ^ (8 * j) * yn ≤ 2 ^ 56 * 255 := Nat.mul_le_mul hq (by omega)
  have e : (((2 ^ (8 * j) : Nat) : Int) * (yn : Int)) = ((2 ^ (8 * j) * yn : Nat) : Int) := by rw [Int.natCast_mul]
  rw [e]
  generalize hz : 2 ^ (8 * j) * yn = z at *
  rw [u64_or _ _ (by omega) (by omega) (by omega) (by omega)]
  simp only [Int.toNat_natCast]
  have := Nat.two_pow_add_eq_or_of_lt hb yn
  rw [hz] at this
  rw [Nat.or_comm, ← this]
  omega
set_option maxRecDepth 100000 in
set_option maxHeartbeats 2000000 in
theorem c8_Load_ok (w : World) (g : Nat) (M : PM) (F : Nat → Prop) (at_ s : Int) (h : RepP w g M F) (ha : 0 ≤ at_ ∧ at_ ≤ 18446744073709551615) (hf : fitsZ s = true) (he : (pRead M at_ s).2 = 0) :
    Calls Tryz.prog 110 #[.pointer (some ⟨g, 0, none⟩), .int .u64 at_, .int .i64 s] w (Gives (.tuple #[.int .u64 (leN (pRead M at_ s).1), .int .i64 0]) w) := by
  have C := Lib.hid (c8_isOf s)
  rw [hf] at C
  have D := Lib.hid fun w' (b : Below w.heap.size w w') => c8_Read w' g M F at_ s (h.after b) ha
  have hs : s ≤ 8 := by
    unfold fitsZ at hf
    simp only [Bool.or_eq_true, beq_iff_eq] at hf
    omega
  obtain ⟨l1, l2, l3⟩ := pRead_len he
  have HO := Lib.hid (pRead_ok h.ok at_ s)
  clear hf h
  generalize pRead M at_ s = r at *
  obtain ⟨rb, re⟩ := r
  simp only at he l3
  subst he
  obtain ⟨n, rfl⟩ : ∃ n : Nat, s = n := ⟨s.toNat, by omega⟩
  have HLEN : Hid (rb.length = n) := Lib.hid (by omega)
  have hl8 : n ≤ 8 := by omega
  clear hs l2 l3
  have HZ : Hid (leN (rb.take n) = leN rb) := Lib.hid (by rw [← HLEN.out, List.take_length])
  have STEP : Hid (∀ j : Nat, j < n → ∀ x y, x = leN (rb.take j) → y = bAt rb j → (0 ≤ x ∧ x < 256 ^ j) ∧ (0 ≤ y ∧ y ≤ 255) ∧ bits .or .u64 x (256 ^ j * y) = x + 256 ^ j * y ∧ leN (rb.take (j + 1)) = x + 256 ^ j * y) := Lib.hid fun j hj x y hx hy => by
    have hy2 : 0 ≤ y ∧ y ≤ 255 := by rw [hy]; exact HO.out j (by rw [HLEN.out]; omega)
    have hx2 : 0 ≤ x ∧ x < 256 ^ j := by
      have h := leN_lt (okB_take HO.out j)
      rw [List.length_take, HLEN.out, Nat.min_eq_left (by omega)] at h
      rw [hx]; exact h
    refine ⟨hx2, hy2, or_step x y j (by omega) hx2 hy2, ?_⟩
    rw [leN_take (by rw [HLEN.out]; omega), hx, hy]
  go_enter Tryz.func110, Tryz.ntmps110
  go_wp2_with fail
  refine (C.out _).mono ?_
  rintro e w1 ⟨rfl, b1⟩
  have V := Lib.hid b1
  clear b1
  go_wp2_with fail
  refine (D.out _ V.out).mono ?_
  rintro e w2 ⟨A, c, rfl, h2, k1, k2, b2⟩
  replace V := Lib.hid (below_next' V.out b2)
  have H2 := Lib.hid h2
  clear b2 h2 D C
  simp only at *
  rw [HLEN.out] at k1 ⊢
  go_wp2_with fail
  go_loop [10, 28] (fun nv iv => ∃ j : Int, iv = .int .i64 j ∧ 0 ≤ j ∧ j ≤ n ∧ nv = .int .u64 (leN (rb.take j.toNat))) (fun nv iv => n - (intOf iv).toNat)
  case atStart => exact ⟨0, rfl, by omega, by omega, rfl⟩
  case round =>
    obtain ⟨j, rfl, hj0, hj, rfl⟩ := hrel
    by_cases hlt : j < n
    · obtain ⟨ga, oa, rfl, hga, hcell⟩ := H2.out (by rw [HLEN.out]; omega)
      rcases (show j = 0 ∨ j = 1 ∨ j = 2 ∨ j = 3 ∨ j = 4 ∨ j = 5 ∨ j = 6 ∨ j = 7 by omega) with rfl | rfl | rfl | rfl | rfl | rfl | rfl | rfl
      case inl =>
        have c0 := hcell 0 (by rw [HLEN.out]; omega)
        rw [Nat.add_zero] at c0
        obtain ⟨hx, hy, hor, hnext⟩ := STEP.out 0 (by omega) _ _ rfl rfl
        have EQ : Hid (∀ z, z = 1 * bAt rb 0 → bits .or .u64 (leN (rb.take 0)) z = leN (rb.take 1)) := Lib.hid fun z hz => by
          rw [hz, hnext, ← hor, show (256 : Int) ^ 0 = 1 by decide]
        clear hcell hnext hor hx STEP
        rw [show (0 : Int).toNat = 0 from rfl]
        generalize leN (rb.take 0) = x at *
        generalize bAt rb 0 = y at *
        go_wp2_with fail
        exact ⟨⟨1, rfl, by omega, by omega, congrArg (Value.int IntKind.u64) (EQ.out _ (by omega))⟩, by simp [intOf]; omega⟩
      case inr.inl =>
        have c0 := hcell 1 (by rw [HLEN.out]; omega)
        obtain ⟨hx, hy, hor, hnext⟩ := STEP.out 1 (by omega) _ _ rfl rfl
        have EQ : Hid (∀ z, z = 256 * bAt rb 1 → bits .or .u64 (leN (rb.take 1)) z = leN (rb.take 2)) := Lib.hid fun z hz => by
          rw [hz, hnext, ← hor, show (256 : Int) ^ 1 = 256 by decide]
        clear hcell hnext hor hx STEP
        rw [show (1 : Int).toNat = 1 from rfl]
        generalize leN (rb.take 1) = x at *
        generalize bAt rb 1 = y at *
        go_wp2_with fail
        exact ⟨⟨2, rfl, by omega, by omega, congrArg (Value.int IntKind.u64) (EQ.out _ (by omega))⟩, by simp [intOf]; omega⟩
      case inr.inr.inl =>
        have c0 := hcell 2 (by rw [HLEN.out]; omega)
        obtain ⟨hx, hy, hor, hnext⟩ := STEP.out 2 (by omega) _ _ rfl rfl
        have EQ : Hid (∀ z, z = 65536 * bAt rb 2 → bits .or .u64 (leN (rb.take 2)) z = leN (rb.take 3)) := Lib.hid fun z hz => by
          rw [hz, hnext, ← hor, show (256 : Int) ^ 2 = 65536 by decide]
        clear hcell hnext hor hx STEP
        rw [show (2 : Int).toNat = 2 from rfl]
        generalize leN (rb.take 2) = x at *
        generalize bAt rb 2 = y at *
        go_wp2_with fail
        exact ⟨⟨3, rfl, by omega, by omega, congrArg (Value.int IntKind.u64) (EQ.out _ (by omega))⟩, by simp [intOf]; omega⟩
      case inr.inr.inr.inl =>
        have c0 := hcell 3 (by rw [HLEN.out]; omega)
        obtain ⟨hx, hy, hor, hnext⟩ := STEP.out 3 (by omega) _ _ rfl rfl
        have EQ : Hid (∀ z, z = 16777216 * bAt rb 3 → bits .or .u64 (leN (rb.take 3)) z = leN (rb.take 4)) := Lib.hid fun z hz => by
          rw [hz, hnext, ← hor, show (256 : Int) ^ 3 = 16777216 by decide]
        clear hcell hnext hor hx STEP
        rw [show (3 : Int).toNat = 3 from rfl]
        generalize leN (rb.take 3) = x at *
        generalize bAt rb 3 = y at *
        go_wp2_with fail
        exact ⟨⟨4, rfl, by omega, by omega, congrArg (Value.int IntKind.u64) (EQ.out _ (by omega))⟩, by simp [intOf]; omega⟩
      case inr.inr.inr.inr.inl =>
        have c0 := hcell 4 (by rw [HLEN.out]; omega)
        obtain ⟨hx, hy, hor, hnext⟩ := STEP.out 4 (by omega) _ _ rfl rfl
        have EQ : Hid (∀ z, z = 4294967296 * bAt rb 4 → bits .or .u64 (leN (rb.take 4)) z = leN (rb.take 5)) := Lib.hid fun z hz => by
          rw [hz, hnext, ← hor, show (256 : Int) ^ 4 = 4294967296 by decide]
        clear hcell hnext hor hx STEP
        rw [show (4 : Int).toNat = 4 from rfl]
        generalize leN (rb.take 4) = x at *
        generalize bAt rb 4 = y at *
        go_wp2_with fail
        exact ⟨⟨5, rfl, by omega, by omega, congrArg (Value.int IntKind.u64) (EQ.out _ (by omega))⟩, by simp [intOf]; omega⟩
      case inr.inr.inr.inr.inr.inl =>
        have c0 := hcell 5 (by rw [HLEN.out]; omega)
        obtain ⟨hx, hy, hor, hnext⟩ := STEP.out 5 (by omega) _ _ rfl rfl
        have EQ : Hid (∀ z, z = 1099511627776 * bAt rb 5 → bits .or .u64 (leN (rb.take 5)) z = leN (rb.take 6)) := Lib.hid fun z hz => by
          rw [hz, hnext, ← hor, show (256 : Int) ^ 5 = 1099511627776 by decide]
        clear hcell hnext hor hx STEP
        rw [show (5 : Int).toNat = 5 from rfl]
        generalize leN (rb.take 5) = x at *
        generalize bAt rb 5 = y at *
        go_wp2_with fail
        exact ⟨⟨6, rfl, by omega, by omega, congrArg (Value.int IntKind.u64) (EQ.out _ (by omega))⟩, by simp [intOf]; omega⟩
      case inr.inr.inr.inr.inr.inr.inl =>
        have c0 := hcell 6 (by rw [HLEN.out]; omega)
        obtain ⟨hx, hy, hor, hnext⟩ := STEP.out 6 (by omega) _ _ rfl rfl
        have EQ : Hid (∀ z, z = 281474976710656 * bAt rb 6 → bits .or .u64 (leN (rb.take 6)) z = leN (rb.take 7)) := Lib.hid fun z hz => by
          rw [hz, hnext, ← hor, show (256 : Int) ^ 6 = 281474976710656 by decide]
        clear hcell hnext hor hx STEP
        rw [show (6 : Int).toNat = 6 from rfl]
        generalize leN (rb.take 6) = x at *
        generalize bAt rb 6 = y at *
        go_wp2_with fail
        exact ⟨⟨7, rfl, by omega, by omega, congrArg (Value.int IntKind.u64) (EQ.out _ (by omega))⟩, by simp [intOf]; omega⟩
      case inr.inr.inr.inr.inr.inr.inr =>
        have c0 := hcell 7 (by rw [HLEN.out]; omega)
        obtain ⟨hx, hy, hor, hnext⟩ := STEP.out 7 (by omega) _ _ rfl rfl
        have EQ : Hid (∀ z, z = 72057594037927936 * bAt rb 7 → bits .or .u64 (leN (rb.take 7)) z = leN (rb.take 8)) := Lib.hid fun z hz => by
          rw [hz, hnext, ← hor, show (256 : Int) ^ 7 = 72057594037927936 by decide]
        clear hcell hnext hor hx STEP
        rw [show (7 : Int).toNat = 7 from rfl]
        generalize leN (rb.take 7) = x at *
        generalize bAt rb 7 = y at *
        go_wp2_with fail
        exact ⟨⟨8, rfl, by omega, by omega, congrArg (Value.int IntKind.u64) (EQ.out _ (by omega))⟩, by simp [intOf]; omega⟩
    · have hjn : j = n := by omega
      subst hjn
      rw [Int.toNat_natCast, HZ.out]
      clear STEP HZ
      go_wp2_with fail
      go_ret2
      exact ⟨rfl, V.out⟩
theorem c8_Load (w : World) (g : Nat) (M : PM) (F : Nat → Prop) (at_ s : Int) (h : RepP w g M F) (ha : 0 ≤ at_ ∧ at_ ≤ 18446744073709551615) :
    Calls Tryz.prog 110 #[.pointer (some ⟨g, 0, none⟩), .int .u64 at_, .int .i64 s] w (Gives (.tuple #[.int .u64 (pLoad M at_ s).1, .int .i64 (pLoad M at_ s).2]) w) := by
  unfold pLoad
  cases hf : fitsZ s
  · rw [if_neg Bool.false_ne_true]
    exact c8_Load_no w g at_ s hf
  · rw [if_pos rfl]
    by_cases he : (pRead M at_ s).2 = 0
    · rw [if_pos he]
      exact c8_Load_ok w g M F at_ s h ha hf he
    · rw [if_neg he]
      exact c8_Load_err w g M F at_ s h ha hf (beq_false_of_ne he)
theorem memW_sameP {w w' : World} {g : Nat} {M : PM} {F : Nat → Prop} {v : Value} (h : RepP w g M F) (b : Below w.heap.size w w') : MemW RepP g F M v w (.returned v) w' :=
  ⟨rfl, F, h.after b, Turn.of_below b, fun x hx => .inl hx⟩
set_option maxRecDepth 100000 in
set_option maxHeartbeats 2000000 in
theorem c8_Store_no (w : World) (g : Nat) (M : PM) (F : Nat → Prop) (at_ s n : Int) (h : RepP w g M F) (hf : fitsZ s = false) :
    Calls Tryz.prog 112 #[.pointer (some ⟨g, 0, none⟩), .int .u64 at_, .int .i64 s, .int .u64 n] w (MemW RepP g F M (.int .i64 1) w) := by
  have C := Lib.hid (c8_isOf s)
  rw [hf] at C
  clear hf
  have H := Lib.hid h
  clear h
  go_enter Tryz.func112, Tryz.ntmps112
  go_wp2_with fail
  refine (C.out _).mono ?_
  rintro e w1 ⟨rfl, b1⟩
  have V := Lib.hid b1
  clear b1
  go_wp2_with fail
  go_ret
  exact memW_sameP H.out V.out
set_option maxRecDepth 100000 in
set_option maxHeartbeats 2000000 in
theorem c8_Store_out (w : World) (g : Nat) (mv : Value) (L : List AR) (F : Nat → Prop) (at_ s n : Int) (h : RepQ w g mv L F) (ha : 0 ≤ at_ ∧ at_ ≤ 18446744073709551615) (hf : fitsZ s = true) (hw : pWh (arM L) at_ s = none) :
    Calls Tryz.prog 112 #[.pointer (some ⟨g, 0, none⟩), .int .u64 at_, .int .i64 s, .int .u64 n] w (MemW RepP g F (arM L) (.int .i64 80) w) := by
  have C := Lib.hid (c8_isOf s)
  rw [hf] at C
  have hs : 0 ≤ s ∧ s ≤ 1024 := by
    unfold fitsZ at hf
    simp only [Bool.or_eq_true, beq_iff_eq] at hf
    omega
  have D := Lib.hid fun w' (b : Below w.heap.size w w') => c8_find_out w' g mv L F at_ s (h.after b) ha hs hw
  rw [show rgZ = .agg #[.slice none 0 0, .slice none 0 0, .bool false] from rfl] at D
  have H : Hid (RepP w g (arM L) F) := Lib.hid ⟨mv, L, rfl, h⟩
  clear h hf hw
  go_enter Tryz.func112, Tryz.ntmps112
  go_wp2_with fail
  refine (C.out _).mono ?_
  rintro e w1 ⟨rfl, b1⟩
  have V := Lib.hid b1
  clear b1
  go_wp2_with fail
  refine (D.out _ V.out).mono ?_
  rintro e w2 ⟨rfl, b2⟩
  replace V := Lib.hid (below_next' V.out b2)
  clear b2
  go_wp2_with fail
  go_ret
  exact memW_sameP H.out (below_alloc V.out _)
set_option maxRecDepth 100000 in
set_option maxHeartbeats 2000000 in
theorem c8_Store_fixed (w : World) (g : Nat) (mv : Value) (L : List AR) (F : Nat → Prop) (at_ s n : Int) (h : RepQ w g mv L F) (ha : 0 ≤ at_ ∧ at_ ≤ 18446744073709551615) (hf : fitsZ s = true) (k o : Nat) (hw : pWh (arM L) at_ s = some (k, o)) (hfx : (arAt L k).a.fx = true) :
    Calls Tryz.prog 112 #[.pointer (some ⟨g, 0, none⟩), .int .u64 at_, .int .i64 s, .int .u64 n] w (MemW RepP g F (arM L) (.int .i64 82) w) := by
  have C := Lib.hid (c8_isOf s)
  rw [hf] at C
  have hs : 0 ≤ s ∧ s ≤ 1024 := by
    unfold fitsZ at hf
    simp only [Bool.or_eq_true, beq_iff_eq] at hf
    omega
  have D := Lib.hid fun w' (b : Below w.heap.size w w') => c8_find_in w' g mv L F at_ s (h.after b) ha hs k o hw
  have hk := (pWh_some hw).2.1
  rw [arM_len] at hk
  obtain ⟨Ab, cb, hvb, _, _⟩ := own_slice (h.own k hk).1
  obtain ⟨Ak, ck, hvk, _, _⟩ := own_slice (h.own k hk).2
  unfold rgV at D
  rw [hfx, hvb, hvk] at D
  have H : Hid (RepP w g (arM L) F) := Lib.hid ⟨mv, L, rfl, h⟩
  clear h hf hw hfx hvb hvk
  generalize (arAt L k).a.b.length = lb at *
  generalize (arAt L k).a.bl.length = lk at *
  go_enter Tryz.func112, Tryz.ntmps112
  go_wp2_with fail
  refine (C.out _).mono ?_
  rintro e w1 ⟨rfl, b1⟩
  have V := Lib.hid b1
  clear b1
  go_wp2_with fail
  refine (D.out _ V.out).mono ?_
  rintro e w2 ⟨rfl, b2⟩
  replace V := Lib.hid (below_next' V.out b2)
  clear b2
  go_wp2_with fail
  go_ret
  exact memW_sameP H.out (below_alloc V.out _)
set_option maxRecDepth 100000 in
set_option maxHeartbeats 4000000 in
theorem c8_Store_in (w : World) (g : Nat) (mv : Value) (L : List AR) (F : Nat → Prop) (at_ s n : Int) (h : RepQ w g mv L F) (ha : 0 ≤ at_ ∧ at_ ≤ 18446744073709551615) (hf : fitsZ s = true) (hn : 0 ≤ n ∧ n ≤ 18446744073709551615) (k o : Nat) (hw : pWh (arM L) at_ s = some (k, o)) (hfx : (arAt L k).a.fx = false) :
    Calls Tryz.prog 112 #[.pointer (some ⟨g, 0, none⟩), .int .u64 at_, .int .i64 s, .int .u64 n] w (MemW RepP g F ((arM L).set k (paSet (arAt L k).a o s.toNat n)) (.int .i64 0) w) := by
  have C := Lib.hid (c8_isOf s)
  rw [hf] at C
  have hs : 0 ≤ s ∧ s ≤ 8 := by
    unfold fitsZ at hf
    simp only [Bool.or_eq_true, beq_iff_eq] at hf
    omega
  have D := Lib.hid fun w' (b : Below w.heap.size w w') => c8_find_in w' g mv L F at_ s (h.after b) ha ⟨hs.1, by omega⟩ k o hw
  obtain ⟨_, hk, _, hfit, _⟩ := pWh_some hw
  have hok := h.ok k hk
  rw [arM_len] at hk
  rw [arM_at] at hok hfit
  obtain ⟨hob, hbl, hb1024, _⟩ := hok
  have hfit2 := hfit hs.1
  have s1 : 1 ≤ s := by
    unfold fitsZ at hf
    simp only [Bool.or_eq_true, beq_iff_eq] at hf
    omega
  obtain ⟨sn, rfl⟩ : ∃ sn : Nat, s = sn := ⟨s.toNat, by omega⟩
  have en : ((sn : Int)).toNat = sn := by omega
  rw [en] at hfit2 ⊢
  obtain ⟨Ab, cb, hvb, hcb1, hcb2⟩ := own_slice (h.own k hk).1
  obtain ⟨Ak, ck, hvk, hck1, hck2⟩ := own_slice (h.own k hk).2
  obtain ⟨gb, hAb, _, _⟩ := own_addr (by have := (h.own k hk).1; rw [hvb] at this; exact this) (by omega)
  obtain ⟨gk, hAk, _, _⟩ := own_addr (by have := (h.own k hk).2; rw [hvk] at this; exact this) (by omega)
  subst hAb
  subst hAk
  unfold rgV at D
  rw [hfx, hvb, hvk, hbl] at D
  have HVB := Lib.hid hvb
  have HVK := Lib.hid hvk
  have HBL := Lib.hid hbl
  have HLT : Hid (∀ x, F x → x < w.heap.size) := Lib.hid fun x hx => h.lt hx
  have HEND : Hid (∀ w', (∃ b' bl', b' = putN (arAt L k).a.b o (leB n sn) ∧ bl' = putN (arAt L k).a.bl o (List.replicate sn false) ∧ RepQ w' g mv (L.set k (arPut (arAt L k) b' bl')) F) → RepP w' g ((arM L).set k (paSet (arAt L k).a o sn n)) F) := Lib.hid (by
    rintro w' ⟨b', bl', rfl, rfl, hr⟩
    exact ⟨mv, _, (arM_put _ _).symm, hr⟩)
  have Q0 : Hid (∀ w', Below w.heap.size w w' → Turn F w w' ∧ RepQ w' g mv (L.set k (arPut (arAt L k) (arAt L k).a.b (arAt L k).a.bl)) F) := Lib.hid fun w' b => ⟨Turn.of_below b, by
    rw [arPut_self hk]
    exact h.after b⟩
  clear h hw hfit en hvb hvk hbl hfx hob hf
  unfold maxLen at hcb2 hck2
  generalize hlen : (arAt L k).a.b.length = lb at *
  have HLEN := Lib.hid hlen
  clear hlen
  go_enter Tryz.func112, Tryz.ntmps112
  go_wp2_with fail
  refine (C.out _).mono ?_
  rintro e w1 ⟨rfl, b1⟩
  have V := Lib.hid b1
  clear b1
  go_wp2_with fail
  refine (D.out _ V.out).mono ?_
  rintro e w2 ⟨rfl, b2⟩
  have HG : Hid (∀ x, F x → w2.heap.size ≠ x) := Lib.hid fun x hx e => by have := HLT.out x hx; have := (below_next' V.out b2).size; omega
  replace V := Lib.hid (below_alloc (below_next' V.out b2) (.cells #[.slice (some ⟨gb, 0, none⟩) lb cb, .slice (some ⟨gk, 0, none⟩) lb ck, .bool false] 158))
  have BX : Hid (Blk w2.heap.size #[.slice (some ⟨gb, 0, none⟩) lb cb, .slice (some ⟨gk, 0, none⟩) lb ck, .bool false] 158 (w2.alloc (.cells #[.slice (some ⟨gb, 0, none⟩) lb cb, .slice (some ⟨gk, 0, none⟩) lb ck, .bool false] 158))) := Lib.hid (Blk.new w2 _ _ rfl)
  replace Q0 := Lib.hid (Q0.out _ V.out)
  clear b2 C D
  go_wp2_with fail
  generalize hgr : w2.heap.size = gr at *
  generalize hw1 : w2.alloc (.cells #[.slice (some ⟨gb, 0, none⟩) lb cb, .slice (some ⟨gk, 0, none⟩) lb ck, .bool false] 158) = w3 at *
  clear hw1 hgr
  go_loopw [31] (fun iv wr => ∃ (j : Int) (b' : List Int) (bl' : List Bool), iv = .int .i64 j ∧ 0 ≤ j ∧ j ≤ sn ∧ b'.length = lb ∧ bl'.length = lb ∧ Hid (putN b' (o + j.toNat) (leB (n / 256 ^ j.toNat) (sn - j.toNat)) = putN (arAt L k).a.b o (leB n sn) ∧ putN bl' (o + j.toNat) (List.replicate (sn - j.toNat) false) = putN (arAt L k).a.bl o (List.replicate sn false)) ∧ Hid (Turn F w wr ∧ RepQ wr g mv (L.set k (arPut (arAt L k) b' bl')) F) ∧ Hid (Blk gr #[.slice (some ⟨gb, 0, none⟩) lb cb, .slice (some ⟨gk, 0, none⟩) lb ck, .bool false] 158 wr)) (fun iv wr => sn - (intOf iv).toNat)
  case atStart => exact ⟨0, (arAt L k).a.b, (arAt L k).a.bl, rfl, by omega, by omega, HLEN.out, HBL.out, Lib.hid ⟨by simp, by simp⟩, Q0, BX⟩
  case round =>
    clear Q0 BX
    obtain ⟨j, b', bl', rfl, hj0, hj, hb', hbl', HP, Q, BX⟩ := hrel
    by_cases hlt : j < sn
    · obtain ⟨jn, rfl⟩ : ∃ jn : Nat, j = jn := ⟨j.toNat, by omega⟩
      obtain ⟨m, hm⟩ : ∃ m, sn - jn = m + 1 := ⟨sn - jn - 1, by omega⟩
      have hm2 : sn - (jn + 1) = m := by omega
      have en2 : ((jn : Int)).toNat = jn := by omega
      rw [en2] at HP
      have HP2 : Hid (∀ v, v = n / 256 ^ jn % 256 → putN (b'.set (o + jn) v) (o + (jn + 1)) (leB (n / 256 ^ (jn + 1)) (sn - (jn + 1))) = putN (arAt L k).a.b o (leB n sn) ∧ putN (bl'.set (o + jn) false) (o + (jn + 1)) (List.replicate (sn - (jn + 1)) false) = putN (arAt L k).a.bl o (List.replicate sn false)) := Lib.hid (by
        intro v hv
        have hp := HP.out
        rw [hm, leB_succ, List.replicate_succ, putN_cons, putN_cons, ← hv] at hp
        rw [hm2, show n / 256 ^ (jn + 1) = n / 256 ^ jn / 256 by rw [Int.pow_succ, Int.ediv_ediv_of_nonneg (Int.le_of_lt (Int.pow_pos (by omega)))]]
        exact hp)
      have QS : Hid (∀ v, 0 ≤ v ∧ v ≤ 255 → (Turn F w ((wr.setCell ⟨gb, o + jn, none⟩ (.int .u8 v)).setCell ⟨gk, o + jn, none⟩ (.bool false)).drew ∧ RepQ ((wr.setCell ⟨gb, o + jn, none⟩ (.int .u8 v)).setCell ⟨gk, o + jn, none⟩ (.bool false)).drew g mv (L.set k (arPut (arAt L k) (b'.set (o + jn) v) (bl'.set (o + jn) false))) F) ∧ F gb ∧ F gk ∧ gk ≠ gb) := Lib.hid (by
        intro v hv
        obtain ⟨RS, fb, fk, n1, n2⟩ := Q.out.2.step (j := o + jn) hk (by omega) HVB.out HVK.out hv
        exact ⟨⟨((Q.out.1.setCell (p := ⟨gb, o + jn, none⟩) (Or.inl fb) (.int .u8 v)).setCell (p := ⟨gk, o + jn, none⟩) (Or.inl fk) (.bool false)).drew, RS.keep (fun x _ => rfl)⟩, fb, fk, n2⟩)
      obtain ⟨-, fb, fk, hne⟩ := QS.out 0 (by omega)
      have BXS : Hid (∀ v, Blk gr #[.slice (some ⟨gb, 0, none⟩) lb cb, .slice (some ⟨gk, 0, none⟩) lb ck, .bool false] 158 (wr.setCell ⟨gb, o + jn, none⟩ (.int .u8 v)).drew ∧ Blk gr #[.slice (some ⟨gb, 0, none⟩) lb cb, .slice (some ⟨gk, 0, none⟩) lb ck, .bool false] 158 ((wr.setCell ⟨gb, o + jn, none⟩ (.int .u8 v)).setCell ⟨gk, o + jn, none⟩ (.bool false)).drew) := Lib.hid fun v =>
        have h1 : Blk gr _ _ (wr.setCell ⟨gb, o + jn, none⟩ (.int .u8 v)).drew := BX.out.other (.int .u8 v) (HG.out gb fb)
        ⟨h1, h1.other (.bool false) (HG.out gk fk)⟩
      have g1 := HG.out gb fb
      have g2 := HG.out gk fk
      have hown := Q.out.2.own k (by rw [List.length_set]; exact hk)
      rw [arAt_set hk, if_pos rfl] at hown
      obtain ⟨hb1, hk1⟩ := hown
      simp only [arPut] at hb1 hk1
      rw [HVB.out, hb'] at hb1
      rw [HVK.out, hbl', HBL.out] at hk1
      have cb0 := hb1.cellAt (o + jn) (by omega)
      rw [byC_at _ (by omega)] at cb0
      have ck0 := hk1.cellAt (o + jn) (by omega)
      rw [boC_at _ (by omega)] at ck0
      have fb0 := hb1.frozenAt (o + jn)
      have fk0 := hk1.frozenAt (o + jn)
      have x0 := BX.out.cell 0
      have x1 := BX.out.cell 1
      have o0 : (0 : Int) ≤ o := by omega
      have jn8 : jn < 8 := by omega
      clear hb1 hk1 fb fk hm hm2 en2 HP
      go_wp2_with fail
      go_region
      have hv0 : 0 ≤ n / 2 ^ (8 * jn) % 256 ∧ n / 2 ^ (8 * jn) % 256 ≤ 255 := by omega
      have hv1 : n / 2 ^ (8 * jn) % 256 = n / 256 ^ jn % 256 := by rw [Int.pow_mul]; rfl
      generalize n / 2 ^ (8 * jn) % 256 = v at *
      have hp := HP2.out v hv1
      have q1 := (QS.out v hv0).1
      obtain ⟨bx1, bx2⟩ := BXS.out v
      have y1 := bx1.cell 1
      have hk0 : (wr.setCell ⟨gb, o + jn, none⟩ (.int .u8 v)).drew.cell? ⟨gk, o + jn, none⟩ = some (.bool (bl'.getD (o + jn) false)) := by
        rw [← ck0]
        exact World.cell?_of_block (Below.heap_setCell _ _ _ _ hne)
      have HP := Lib.hid hp
      have Q1 := Lib.hid q1
      have BX2 := Lib.hid bx2
      clear hp q1 bx1 bx2 QS HP2 BXS BX Q cb0 ck0 x0 x1 hv1
      have en3 : ((jn : Int) + 1).toNat = jn + 1 := by omega
      go_wp2_with fail
      exact ⟨⟨jn + 1, b'.set (o + jn) v, bl'.set (o + jn) false, rfl, by omega, by omega, by rw [List.length_set]; exact hb', by rw [List.length_set]; exact hbl', by rw [en3]; exact HP, Q1, BX2⟩, by simp [intOf]; omega⟩
    · have hjs : j = sn := by omega
      subst hjs
      rw [Int.toNat_natCast, Nat.sub_self] at HP
      have HM := Lib.hid (HEND.out wr ⟨b', bl', HP.out.1, HP.out.2, Q.out.2⟩)
      go_wp2_with fail
      go_ret
      exact ⟨rfl, F, HM.out, Q.out.1, fun x hx => .inl hx⟩
theorem c8_Store (w : World) (g : Nat) (M : PM) (F : Nat → Prop) (at_ s n : Int) (h : RepP w g M F) (ha : 0 ≤ at_ ∧ at_ ≤ 18446744073709551615) (hn : 0 ≤ n ∧ n ≤ 18446744073709551615) :
    Calls Tryz.prog 112 #[.pointer (some ⟨g, 0, none⟩), .int .u64 at_, .int .i64 s, .int .u64 n] w (MemW RepP g F (pStore M at_ s n).1 (.int .i64 (pStore M at_ s n).2) w) := by
  obtain ⟨mv, L, rfl, h⟩ := h
  unfold pStore
  cases hf : fitsZ s
  · rw [if_neg Bool.false_ne_true]
    exact c8_Store_no w g _ F at_ s n ⟨mv, L, rfl, h⟩ hf
  · rw [if_pos rfl]
    cases hw : pWh (arM L) at_ s with
    | none => exact c8_Store_out w g mv L F at_ s n h ha hf hw
    | some p =>
      obtain ⟨k, o⟩ := p
      simp only
      rw [arM_at]
      cases hfx : (arAt L k).a.fx
      · rw [if_neg Bool.false_ne_true]
        exact c8_Store_in w g mv L F at_ s n h ha hf hn k o hw hfx
      · rw [if_pos rfl]
        exact c8_Store_fixed w g mv L F at_ s n h ha hf k o hw hfx
end Go.Proofs.YtlbhffdpklbhfaaGreat
