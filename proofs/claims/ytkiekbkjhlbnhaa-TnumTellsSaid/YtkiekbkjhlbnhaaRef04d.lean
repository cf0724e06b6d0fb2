/-
  The document's own Do of layer 4, op by op, and whole.
  Conditions: none.
-/
import Derived.Test.YtkiekbkjhlbnhaaRef04a
namespace Go.Proofs.Ytkiekbkjhlbnhaa
open Go.RowKit
set_option linter.unusedVariables false

/-- Whether the second one is a number below 64, as it is asked. -/
def Kn (b : Tn) (k : Bool) : Prop := ((b.2.toNat : Int) == 0) = false ∧ k = false ∨ ((b.2.toNat : Int) == 0) = true ∧ (64 : Int) ≤ (b.1.toNat : Int) ∧ k = false ∨ ((b.2.toNat : Int) == 0) = true ∧ (b.1.toNat : Int) < 64 ∧ k = true
theorem kn_is (b : Tn) : Kn b (tKnown b) := by
  unfold Kn tKnown
  rw [bv_eq0]
  cases h : (b.2 == 0#64)
  · exact .inl ⟨rfl, rfl⟩
  · by_cases h2 : b.1.toNat < 64
    · exact .inr (.inr ⟨rfl, by omega, by simp [h2]⟩)
    · exact .inr (.inl ⟨rfl, by omega, by simp [h2]⟩)

set_option maxHeartbeats 2000000 in
theorem rdo_wrong (op : Int) (a b : Tn) (w : World) (hr : tRR a b = false) : Calls Try.prog 25 #[.int .u8 op, tV a, tV b] w (Gives (tBV (0#64, 0#64) false) w) := by
  have hx := Lib.hid (Trio.new a b w)
  have h0 := Lib.hid (rboth_says a b)
  rw [hr] at h0
  clear hr
  go_enter Try.func25, Try.ntmps25
  go_wp2_with fail
  refine (h0.out _).mono ?_; rintro e w1 ⟨rfl, b1⟩
  have x1 := hx.out.after b1
  obtain ⟨p0, p1, p2, p3⟩ := x1.1.cells
  obtain ⟨c0, c1⟩ := x1.2.cells
  obtain ⟨f0, f1⟩ := x1.2.free
  have X1 := Lib.hid x1
  clear x1 b1 hx h0
  go_wp2_with fail
  have X2 := Lib.hid (X1.out.set (0#64, 0#64))
  exact bodyPost_ret (v := tBV (0#64, 0#64) false) (by simp [results, Try.results25, go_sem, c0, c1]) rfl ⟨rfl, X2.out.1.1⟩

set_option maxHeartbeats 2000000 in
theorem rdo_other (op : Int) (a b : Tn) (w : World) (hr : tRR a b = true) (k : Bool) (hkn : Kn b k) (h1 : ¬ op = 0) (h2 : ¬ op = 16) (h3 : ¬ op = 32) (h4 : ¬ op = 80) (h5 : ¬ op = 64) (h6 : ¬ op = 160) (h7 : ¬ op = 96) (h8 : ¬ op = 112) : Calls Try.prog 25 #[.int .u8 op, tV a, tV b] w (Gives (tBV (0#64, 0#64) false) w) := by
  have hx := Lib.hid (Trio.new a b w)
  have h0 := Lib.hid (rboth_says a b)
  rw [hr] at h0
  clear hr
  rcases hkn with ⟨k1, k3⟩ | ⟨k1, k2, k3⟩ | ⟨k1, k2, k3⟩
  all_goals
    go_enter Try.func25, Try.ntmps25
    go_wp2_with fail
    refine (h0.out _).mono ?_; rintro e w1 ⟨rfl, b1⟩
    have x1 := hx.out.after b1
    obtain ⟨p0, p1, p2, p3⟩ := x1.1.cells
    obtain ⟨c0, c1⟩ := x1.2.cells
    obtain ⟨f0, f1⟩ := x1.2.free
    have X1 := Lib.hid x1
    clear x1 b1 hx h0
    go_wp2_with fail
    have X2 := Lib.hid (X1.out.set (0#64, 0#64))
    exact bodyPost_ret (v := tBV (0#64, 0#64) false) (by simp [results, Try.results25, go_sem, c0, c1]) rfl ⟨rfl, X2.out.1.1⟩

set_option maxHeartbeats 2000000 in
theorem rdo_add (a b : Tn) (w : World) (hr : tRR a b = true) (k : Bool) (hkn : Kn b k) : Calls Try.prog 25 #[.int .u8 0, tV a, tV b] w (Gives (tBV (tAdd a b) true) w) := by
  have hx := Lib.hid (Trio.new a b w)
  have h0 := Lib.hid (rboth_says a b)
  rw [hr] at h0
  clear hr
  have hc : Hid (∀ w, Calls _ _ _ _ _) := Lib.hid (radd_says a b)
  generalize tAdd a b = t at *
  rcases hkn with ⟨k1, k3⟩ | ⟨k1, k2, k3⟩ | ⟨k1, k2, k3⟩
  all_goals
    go_enter Try.func25, Try.ntmps25
    go_wp2_with fail
    refine (h0.out _).mono ?_; rintro e w1 ⟨rfl, b1⟩
    have x1 := hx.out.after b1
    obtain ⟨p0, p1, p2, p3⟩ := x1.1.cells
    obtain ⟨c0, c1⟩ := x1.2.cells
    obtain ⟨f0, f1⟩ := x1.2.free
    have X1 := Lib.hid x1
    clear x1 b1 hx h0
    go_wp2_with fail
    refine (hc.out _).mono ?_; rintro e w2 ⟨rfl, b2⟩
    have x2 := X1.out.after b2
    clear p0 p1 p2 p3 c0 c1 f0 f1 X1 b2
    obtain ⟨c0, c1⟩ := x2.2.cells
    obtain ⟨f0, f1⟩ := x2.2.free
    have X2 := Lib.hid (x2.set t)
    clear x2
    go_wp2_with fail
    exact bodyPost_ret (v := tBV t true) (by simp [results, Try.results25, go_sem, c0, c1]) rfl ⟨rfl, X2.out.1.1⟩

set_option maxHeartbeats 2000000 in
theorem rdo_mul (a b : Tn) (w : World) (hr : tRR a b = true) (k : Bool) (hkn : Kn b k) : Calls Try.prog 25 #[.int .u8 32, tV a, tV b] w (Gives (tBV (tMulTo a b 64) true) w) := by
  have hx := Lib.hid (Trio.new a b w)
  have h0 := Lib.hid (rboth_says a b)
  rw [hr] at h0
  clear hr
  have hc : Hid (∀ w, Calls _ _ _ _ _) := Lib.hid (rmul_says a b)
  generalize tMulTo a b 64 = t at *
  rcases hkn with ⟨k1, k3⟩ | ⟨k1, k2, k3⟩ | ⟨k1, k2, k3⟩
  all_goals
    go_enter Try.func25, Try.ntmps25
    go_wp2_with fail
    refine (h0.out _).mono ?_; rintro e w1 ⟨rfl, b1⟩
    have x1 := hx.out.after b1
    obtain ⟨p0, p1, p2, p3⟩ := x1.1.cells
    obtain ⟨c0, c1⟩ := x1.2.cells
    obtain ⟨f0, f1⟩ := x1.2.free
    have X1 := Lib.hid x1
    clear x1 b1 hx h0
    go_wp2_with fail
    refine (hc.out _).mono ?_; rintro e w2 ⟨rfl, b2⟩
    have x2 := X1.out.after b2
    clear p0 p1 p2 p3 c0 c1 f0 f1 X1 b2
    obtain ⟨c0, c1⟩ := x2.2.cells
    obtain ⟨f0, f1⟩ := x2.2.free
    have X2 := Lib.hid (x2.set t)
    clear x2
    go_wp2_with fail
    exact bodyPost_ret (v := tBV t true) (by simp [results, Try.results25, go_sem, c0, c1]) rfl ⟨rfl, X2.out.1.1⟩

set_option maxHeartbeats 2000000 in
theorem rdo_and (a b : Tn) (w : World) (hr : tRR a b = true) (k : Bool) (hkn : Kn b k) : Calls Try.prog 25 #[.int .u8 80, tV a, tV b] w (Gives (tBV (tAnd a b) true) w) := by
  have hx := Lib.hid (Trio.new a b w)
  have h0 := Lib.hid (rboth_says a b)
  rw [hr] at h0
  clear hr
  have hc : Hid (∀ w, Calls _ _ _ _ _) := Lib.hid (rand_says a b)
  generalize tAnd a b = t at *
  rcases hkn with ⟨k1, k3⟩ | ⟨k1, k2, k3⟩ | ⟨k1, k2, k3⟩
  all_goals
    go_enter Try.func25, Try.ntmps25
    go_wp2_with fail
    refine (h0.out _).mono ?_; rintro e w1 ⟨rfl, b1⟩
    have x1 := hx.out.after b1
    obtain ⟨p0, p1, p2, p3⟩ := x1.1.cells
    obtain ⟨c0, c1⟩ := x1.2.cells
    obtain ⟨f0, f1⟩ := x1.2.free
    have X1 := Lib.hid x1
    clear x1 b1 hx h0
    go_wp2_with fail
    refine (hc.out _).mono ?_; rintro e w2 ⟨rfl, b2⟩
    have x2 := X1.out.after b2
    clear p0 p1 p2 p3 c0 c1 f0 f1 X1 b2
    obtain ⟨c0, c1⟩ := x2.2.cells
    obtain ⟨f0, f1⟩ := x2.2.free
    have X2 := Lib.hid (x2.set t)
    clear x2
    go_wp2_with fail
    exact bodyPost_ret (v := tBV t true) (by simp [results, Try.results25, go_sem, c0, c1]) rfl ⟨rfl, X2.out.1.1⟩

set_option maxHeartbeats 2000000 in
theorem rdo_xor (a b : Tn) (w : World) (hr : tRR a b = true) (k : Bool) (hkn : Kn b k) : Calls Try.prog 25 #[.int .u8 160, tV a, tV b] w (Gives (tBV (tXor a b) true) w) := by
  have hx := Lib.hid (Trio.new a b w)
  have h0 := Lib.hid (rboth_says a b)
  rw [hr] at h0
  clear hr
  have hc : Hid (∀ w, Calls _ _ _ _ _) := Lib.hid (rmade_says (a.1 ^^^ b.1) (a.2 ||| b.2))
  have hv : tMade (a.1 ^^^ b.1) (a.2 ||| b.2) = tXor a b := rfl
  rw [hv] at hc
  clear hv
  generalize tXor a b = t at *
  rcases hkn with ⟨k1, k3⟩ | ⟨k1, k2, k3⟩ | ⟨k1, k2, k3⟩
  all_goals
    go_enter Try.func25, Try.ntmps25
    go_wp2_with fail
    refine (h0.out _).mono ?_; rintro e w1 ⟨rfl, b1⟩
    have x1 := hx.out.after b1
    obtain ⟨p0, p1, p2, p3⟩ := x1.1.cells
    obtain ⟨c0, c1⟩ := x1.2.cells
    obtain ⟨f0, f1⟩ := x1.2.free
    have X1 := Lib.hid x1
    clear x1 b1 hx h0
    go_wp2_with fail
    simp only [bv_xor, bv_or]
    refine (hc.out _).mono ?_; rintro e w2 ⟨rfl, b2⟩
    have x2 := X1.out.after b2
    clear p0 p1 p2 p3 c0 c1 f0 f1 X1 b2
    obtain ⟨c0, c1⟩ := x2.2.cells
    obtain ⟨f0, f1⟩ := x2.2.free
    have X2 := Lib.hid (x2.set t)
    clear x2
    go_wp2_with fail
    exact bodyPost_ret (v := tBV t true) (by simp [results, Try.results25, go_sem, c0, c1]) rfl ⟨rfl, X2.out.1.1⟩

set_option maxHeartbeats 2000000 in
theorem rdo_sub (a b : Tn) (w : World) (hr : tRR a b = true) (k : Bool) (hkn : Kn b k) : Calls Try.prog 25 #[.int .u8 16, tV a, tV b] w (Gives (tBV (tSub a b) true) w) := by
  have hx := Lib.hid (Trio.new a b w)
  have h0 := Lib.hid (rboth_says a b)
  rw [hr] at h0
  clear hr
  have e1 := bv_sub' a.1 b.1
  have e2 := bv_add' (a.1 - b.1) a.2
  have e3 := bv_sub' (a.1 - b.1) b.2
  have ht := Lib.hid (show tMade (a.1 - b.1) (((a.1 - b.1 + a.2) ^^^ (a.1 - b.1 - b.2)) ||| a.2 ||| b.2) = tSub a b from rfl)
  generalize a.1 - b.1 = v at *
  generalize v + a.2 = p at *
  generalize v - b.2 = q at *
  rcases hkn with ⟨k1, k3⟩ | ⟨k1, k2, k3⟩ | ⟨k1, k2, k3⟩
  all_goals
    go_enter Try.func25, Try.ntmps25
    go_wp2_with fail
    refine (h0.out _).mono ?_; rintro e w1 ⟨rfl, b1⟩
    have x1 := hx.out.after b1
    obtain ⟨p0, p1, p2, p3⟩ := x1.1.cells
    obtain ⟨c0, c1⟩ := x1.2.cells
    obtain ⟨f0, f1⟩ := x1.2.free
    have X1 := Lib.hid x1
    clear x1 b1 hx h0
    go_wp2_with fail
    simp only [bv_xor, bv_or]
    refine (rmade_says _ _ _).mono ?_; rintro e w2 ⟨rfl, b2⟩
    rw [ht.out]
    generalize tSub a b = t at *
    have x2 := X1.out.after b2
    clear p0 p1 p2 p3 c0 c1 f0 f1 X1 b2
    obtain ⟨c0, c1⟩ := x2.2.cells
    obtain ⟨f0, f1⟩ := x2.2.free
    have X2 := Lib.hid (x2.set t)
    clear x2
    go_wp2_with fail
    exact bodyPost_ret (v := tBV t true) (by simp [results, Try.results25, go_sem, c0, c1]) rfl ⟨rfl, X2.out.1.1⟩

set_option maxHeartbeats 2000000 in
theorem rdo_or (a b : Tn) (w : World) (hr : tRR a b = true) (k : Bool) (hkn : Kn b k) : Calls Try.prog 25 #[.int .u8 64, tV a, tV b] w (Gives (tBV (tOr a b) true) w) := by
  have hx := Lib.hid (Trio.new a b w)
  have h0 := Lib.hid (rboth_says a b)
  rw [hr] at h0
  clear hr
  have hv : (a.1 ||| b.1, (a.2 ||| b.2) &&& ~~~(a.1 ||| b.1)) = tOr a b := rfl
  have E := Lib.hid (show bits .andNot .u64 (bits .or .u64 (a.2.toNat : Int) (b.2.toNat : Int)) (bits .or .u64 (a.1.toNat : Int) (b.1.toNat : Int)) = (((a.2 ||| b.2) &&& ~~~(a.1 ||| b.1)).toNat : Int) by rw [bv_or, bv_or, bv_andNot])
  have E2 := Lib.hid (bv_or a.1 b.1)
  generalize (a.2 ||| b.2) &&& ~~~(a.1 ||| b.1) = m at *
  generalize a.1 ||| b.1 = v at *
  rw [← hv]
  clear hv
  rcases hkn with ⟨k1, k3⟩ | ⟨k1, k2, k3⟩ | ⟨k1, k2, k3⟩
  all_goals
    go_enter Try.func25, Try.ntmps25
    go_wp2_with fail
    refine (h0.out _).mono ?_; rintro e w1 ⟨rfl, b1⟩
    have x1 := hx.out.after b1
    obtain ⟨p0, p1, p2, p3⟩ := x1.1.cells
    obtain ⟨c0, c1⟩ := x1.2.cells
    obtain ⟨f0, f1⟩ := x1.2.free
    have X1 := Lib.hid x1
    clear x1 b1 hx h0
    go_wp2_with fail
    rw [E.out, E2.out]
    have X2 := Lib.hid (X1.out.set (v, m))
    exact bodyPost_ret (v := tBV (v, m) true) (by simp [results, Try.results25, go_sem, c0, c1]) rfl ⟨rfl, X2.out.1.1⟩

set_option maxHeartbeats 2000000 in
theorem rdo_lsh (a b : Tn) (w : World) (hr : tRR a b = true) (k1 : ((b.2.toNat : Int) == 0) = true) (k2 : (b.1.toNat : Int) < 64) : Calls Try.prog 25 #[.int .u8 96, tV a, tV b] w (Gives (tBV (tLsh a b.1.toNat) true) w) := by
  have hx := Lib.hid (Trio.new a b w)
  have h0 := Lib.hid (rboth_says a b)
  rw [hr] at h0
  clear hr
  have hv : (a.1 <<< b.1.toNat, a.2 <<< b.1.toNat) = tLsh a b.1.toNat := rfl
  have e1 := bv_shl' a.1 b.1.toNat
  have e2 := bv_shl' a.2 b.1.toNat
  generalize a.1 <<< b.1.toNat = v at *
  generalize a.2 <<< b.1.toNat = m at *
  rw [← hv]
  clear hv
  go_enter Try.func25, Try.ntmps25
  go_wp2_with fail
  refine (h0.out _).mono ?_; rintro e w1 ⟨rfl, b1⟩
  have x1 := hx.out.after b1
  obtain ⟨p0, p1, p2, p3⟩ := x1.1.cells
  obtain ⟨c0, c1⟩ := x1.2.cells
  obtain ⟨f0, f1⟩ := x1.2.free
  have X1 := Lib.hid x1
  clear x1 b1 hx h0
  go_wp2_with fail
  have X2 := Lib.hid (X1.out.set (v, m))
  exact bodyPost_ret (v := tBV (v, m) true) (by simp [results, Try.results25, go_sem, c0, c1]) rfl ⟨rfl, X2.out.1.1⟩

set_option maxHeartbeats 2000000 in
theorem rdo_no_lsh (a b : Tn) (w : World) (hr : tRR a b = true) (hk : ((b.2.toNat : Int) == 0) = false ∨ ((b.2.toNat : Int) == 0) = true ∧ (64 : Int) ≤ (b.1.toNat : Int)) : Calls Try.prog 25 #[.int .u8 96, tV a, tV b] w (Gives (tBV (0#64, 0#64) false) w) := by
  have hx := Lib.hid (Trio.new a b w)
  have h0 := Lib.hid (rboth_says a b)
  rw [hr] at h0
  clear hr
  rcases hk with k1 | ⟨k1, k2⟩
  all_goals
    go_enter Try.func25, Try.ntmps25
    go_wp2_with fail
    refine (h0.out _).mono ?_; rintro e w1 ⟨rfl, b1⟩
    have x1 := hx.out.after b1
    obtain ⟨p0, p1, p2, p3⟩ := x1.1.cells
    obtain ⟨c0, c1⟩ := x1.2.cells
    obtain ⟨f0, f1⟩ := x1.2.free
    have X1 := Lib.hid x1
    clear x1 b1 hx h0
    go_wp2_with fail
    have X2 := Lib.hid (X1.out.set (0#64, 0#64))
    exact bodyPost_ret (v := tBV (0#64, 0#64) false) (by simp [results, Try.results25, go_sem, c0, c1]) rfl ⟨rfl, X2.out.1.1⟩

set_option maxHeartbeats 2000000 in
theorem rdo_rsh (a b : Tn) (w : World) (hr : tRR a b = true) (k1 : ((b.2.toNat : Int) == 0) = true) (k2 : (b.1.toNat : Int) < 64) : Calls Try.prog 25 #[.int .u8 112, tV a, tV b] w (Gives (tBV (tRsh a b.1.toNat) true) w) := by
  have hx := Lib.hid (Trio.new a b w)
  have h0 := Lib.hid (rboth_says a b)
  rw [hr] at h0
  clear hr
  have hv : (a.1 >>> b.1.toNat, a.2 >>> b.1.toNat) = tRsh a b.1.toNat := rfl
  have e1 := bv_shr a.1 b.1.toNat
  have e2 := bv_shr a.2 b.1.toNat
  generalize a.1 >>> b.1.toNat = v at *
  generalize a.2 >>> b.1.toNat = m at *
  rw [← hv]
  clear hv
  go_enter Try.func25, Try.ntmps25
  go_wp2_with fail
  refine (h0.out _).mono ?_; rintro e w1 ⟨rfl, b1⟩
  have x1 := hx.out.after b1
  obtain ⟨p0, p1, p2, p3⟩ := x1.1.cells
  obtain ⟨c0, c1⟩ := x1.2.cells
  obtain ⟨f0, f1⟩ := x1.2.free
  have X1 := Lib.hid x1
  clear x1 b1 hx h0
  go_wp2_with fail
  have X2 := Lib.hid (X1.out.set (v, m))
  exact bodyPost_ret (v := tBV (v, m) true) (by simp [results, Try.results25, go_sem, c0, c1]) rfl ⟨rfl, X2.out.1.1⟩

set_option maxHeartbeats 2000000 in
theorem rdo_no_rsh (a b : Tn) (w : World) (hr : tRR a b = true) (hk : ((b.2.toNat : Int) == 0) = false ∨ ((b.2.toNat : Int) == 0) = true ∧ (64 : Int) ≤ (b.1.toNat : Int)) : Calls Try.prog 25 #[.int .u8 112, tV a, tV b] w (Gives (tBV (0#64, 0#64) false) w) := by
  have hx := Lib.hid (Trio.new a b w)
  have h0 := Lib.hid (rboth_says a b)
  rw [hr] at h0
  clear hr
  rcases hk with k1 | ⟨k1, k2⟩
  all_goals
    go_enter Try.func25, Try.ntmps25
    go_wp2_with fail
    refine (h0.out _).mono ?_; rintro e w1 ⟨rfl, b1⟩
    have x1 := hx.out.after b1
    obtain ⟨p0, p1, p2, p3⟩ := x1.1.cells
    obtain ⟨c0, c1⟩ := x1.2.cells
    obtain ⟨f0, f1⟩ := x1.2.free
    have X1 := Lib.hid x1
    clear x1 b1 hx h0
    go_wp2_with fail
    have X2 := Lib.hid (X1.out.set (0#64, 0#64))
    exact bodyPost_ret (v := tBV (0#64, 0#64) false) (by simp [results, Try.results25, go_sem, c0, c1]) rfl ⟨rfl, X2.out.1.1⟩

theorem rdo_says (op : Int) (a b : Tn) (w : World) : Calls Try.prog 25 #[.int .u8 op, tV a, tV b] w (Gives (tBV (tDo op a b) (tDok op a b)) w) := by
  have hkn := kn_is b
  cases hr : tRR a b
  · have e : tDok op a b = false := by unfold tDok; rw [hr]; rfl
    have e2 : tDo op a b = (0#64, 0#64) := by unfold tDo; rw [e]; rfl
    rw [e, e2]
    exact rdo_wrong op a b w hr
  by_cases h1 : op = 0
  · subst h1
    have e : tDok 0 a b = true := by unfold tDok; rw [hr]; rfl
    have e2 : tDo 0 a b = tAdd a b := by unfold tDo; rw [e, if_pos rfl]; rfl
    rw [e, e2]
    exact rdo_add a b w hr _ hkn
  by_cases h2 : op = 16
  · subst h2
    have e : tDok 16 a b = true := by unfold tDok; rw [hr]; rfl
    have e2 : tDo 16 a b = tSub a b := by unfold tDo; rw [e, if_pos rfl]; rfl
    rw [e, e2]
    exact rdo_sub a b w hr _ hkn
  by_cases h3 : op = 32
  · subst h3
    have e : tDok 32 a b = true := by unfold tDok; rw [hr]; rfl
    have e2 : tDo 32 a b = tMulTo a b 64 := by unfold tDo; rw [e, if_pos rfl]; rfl
    rw [e, e2]
    exact rdo_mul a b w hr _ hkn
  by_cases h4 : op = 80
  · subst h4
    have e : tDok 80 a b = true := by unfold tDok; rw [hr]; rfl
    have e2 : tDo 80 a b = tAnd a b := by unfold tDo; rw [e, if_pos rfl]; rfl
    rw [e, e2]
    exact rdo_and a b w hr _ hkn
  by_cases h5 : op = 64
  · subst h5
    have e : tDok 64 a b = true := by unfold tDok; rw [hr]; rfl
    have e2 : tDo 64 a b = tOr a b := by unfold tDo; rw [e, if_pos rfl]; rfl
    rw [e, e2]
    exact rdo_or a b w hr _ hkn
  by_cases h6 : op = 160
  · subst h6
    have e : tDok 160 a b = true := by unfold tDok; rw [hr]; rfl
    have e2 : tDo 160 a b = tXor a b := by unfold tDo; rw [e, if_pos rfl]; rfl
    rw [e, e2]
    exact rdo_xor a b w hr _ hkn
  by_cases h7 : op = 96
  · subst h7
    have hk2 := hkn
    unfold Kn at hk2
    cases hk : tKnown b
    · rw [hk] at hk2
      have e : tDok 96 a b = false := by unfold tDok; rw [hr, hk]; rfl
      have e2 : tDo 96 a b = (0#64, 0#64) := by unfold tDo; rw [e]; rfl
      rw [e, e2]
      refine rdo_no_lsh a b w hr ?_
      rcases hk2 with ⟨k1, _⟩ | ⟨k1, k2, _⟩ | ⟨_, _, k3⟩
      · exact .inl k1
      · exact .inr ⟨k1, k2⟩
      · cases k3
    · rw [hk] at hk2
      have e : tDok 96 a b = true := by unfold tDok; rw [hr, hk]; rfl
      have e2 : tDo 96 a b = tLsh a b.1.toNat := by unfold tDo; rw [e, if_pos rfl]; rfl
      rw [e, e2]
      rcases hk2 with ⟨_, k3⟩ | ⟨_, _, k3⟩ | ⟨k1, k2, _⟩
      · cases k3
      · cases k3
      · exact rdo_lsh a b w hr k1 k2
  by_cases h8 : op = 112
  · subst h8
    have hk2 := hkn
    unfold Kn at hk2
    cases hk : tKnown b
    · rw [hk] at hk2
      have e : tDok 112 a b = false := by unfold tDok; rw [hr, hk]; rfl
      have e2 : tDo 112 a b = (0#64, 0#64) := by unfold tDo; rw [e]; rfl
      rw [e, e2]
      refine rdo_no_rsh a b w hr ?_
      rcases hk2 with ⟨k1, _⟩ | ⟨k1, k2, _⟩ | ⟨_, _, k3⟩
      · exact .inl k1
      · exact .inr ⟨k1, k2⟩
      · cases k3
    · rw [hk] at hk2
      have e : tDok 112 a b = true := by unfold tDok; rw [hr, hk]; rfl
      have e2 : tDo 112 a b = tRsh a b.1.toNat := by unfold tDo; rw [e, if_pos rfl]; rfl
      rw [e, e2]
      rcases hk2 with ⟨_, k3⟩ | ⟨_, _, k3⟩ | ⟨k1, k2, _⟩
      · cases k3
      · cases k3
      · exact rdo_rsh a b w hr k1 k2
  have e : tDok op a b = false := by unfold tDok; simp [h1, h2, h3, h4, h5, h6, h7, h8]
  have e2 : tDo op a b = (0#64, 0#64) := by unfold tDo; rw [e]; rfl
  rw [e, e2]
  exact rdo_other op a b w hr _ hkn h1 h2 h3 h4 h5 h6 h7 h8

end Go.Proofs.Ytkiekbkjhlbnhaa
