/-
  The document's own If of layer 6.
  Conditions: those that each theorem states.
-/
import Derived.Test.YtfepokiibdkoeaaAllF0

/-
  The document's own answers of layer 6: what is known of both, if a condition holds (7).
  Conditions: the numbers fit their kinds.
-/
namespace Go.Proofs.Ytfepokiibdkoeaa
open Go.RowKit
set_option linter.unusedVariables false

set_option maxRecDepth 100000 in
set_option maxHeartbeats 8000000 in
theorem rf_if_c_mw (kx ky : Bool) (hk : (kx && ky) = false) (a b : Fc) (w : World)
    (R1 : Hid (∀ w, Calls Try.prog 18 #[fV a] w (Gives (.bool true) w)))
    (R2 : Hid (∀ w, Calls Try.prog 18 #[fV b] w (Gives (.bool true) w)))
    (p : BitVec 64) (K1 : Hid (∀ w, Calls Try.prog 15 #[fV a] w (Gives (.tuple #[uV p, .bool kx]) w)))
    (q : BitVec 64) (K2 : Hid (∀ w, Calls Try.prog 15 #[fV b] w (Gives (.tuple #[uV q, .bool ky]) w)))
    (t : Tn) (M : Hid (∀ w, Calls Try.prog 69 #[tV a.1, tV b.1] w (Gives (tBV t false) w))) :
    Calls Try.prog 34 #[.int .u8 16, .bool true, fV a, fV b] w (Gives (fTV fZ fZ false) w) := by
  cases kx <;> cases ky
  case true.true => cases hk
  all_goals
    clear hk
    have hx : Hid (FQ a b fZ fZ w ((((w.alloc (.cells #[uV a.1.1, uV a.1.2, .int .u64 a.2.1, .int .u64 a.2.2] 28)).alloc (.cells #[uV b.1.1, uV b.1.2, .int .u64 b.2.1, .int .u64 b.2.2] 28)).alloc (.cells #[.int .u64 0, .int .u64 0, .int .u64 0, .int .u64 0] 28)).alloc (.cells #[.int .u64 0, .int .u64 0, .int .u64 0, .int .u64 0] 28))) := Lib.hid (FQ.new a b fZ fZ w)
    go_enter Try.func34, Try.ntmps34
    go_wp2_with fail
    refine (R1.out _).mono ?_; rintro e w1 ⟨rfl, b1⟩
    have Q1 := hx.out.after b1
    clear hx b1 R1 
    obtain ⟨p0, p1, p2, p3⟩ := Q1.1.2.1.cells
    obtain ⟨q0, q1, q2, q3⟩ := Q1.1.2.2.cells
    obtain ⟨c0, c1, c2, c3⟩ := Q1.2.1.cells
    obtain ⟨d0, d1, d2, d3⟩ := Q1.2.2.cells
    obtain ⟨f0, f1, f2, f3⟩ := Q1.2.1.free
    obtain ⟨h0, h1, h2, h3⟩ := Q1.2.2.free
    have la := Q1.1.2.1.lt
    have lb := Q1.1.2.2.lt
    have lc := Q1.2.1.lt
    have ld := Q1.2.2.lt
    have QH1 := Lib.hid Q1
    clear Q1
    go_wp2_with fail
    refine (R2.out _).mono ?_; rintro e w2 ⟨rfl, b2⟩
    have Q2 := QH1.out.after b2
    clear QH1 b2 R2 p0 p1 p2 p3 q0 q1 q2 q3 c0 c1 c2 c3 d0 d1 d2 d3 f0 f1 f2 f3 h0 h1 h2 h3 la lb lc ld
    obtain ⟨p0, p1, p2, p3⟩ := Q2.1.2.1.cells
    obtain ⟨q0, q1, q2, q3⟩ := Q2.1.2.2.cells
    obtain ⟨c0, c1, c2, c3⟩ := Q2.2.1.cells
    obtain ⟨d0, d1, d2, d3⟩ := Q2.2.2.cells
    obtain ⟨f0, f1, f2, f3⟩ := Q2.2.1.free
    obtain ⟨h0, h1, h2, h3⟩ := Q2.2.2.free
    have la := Q2.1.2.1.lt
    have lb := Q2.1.2.2.lt
    have lc := Q2.2.1.lt
    have ld := Q2.2.2.lt
    have QH2 := Lib.hid Q2
    clear Q2
    go_wp2_with fail
    refine (K1.out _).mono ?_; rintro e w3 ⟨rfl, b3⟩
    have Q3 := QH2.out.after b3
    clear QH2 b3 K1 p0 p1 p2 p3 q0 q1 q2 q3 c0 c1 c2 c3 d0 d1 d2 d3 f0 f1 f2 f3 h0 h1 h2 h3 la lb lc ld
    obtain ⟨p0, p1, p2, p3⟩ := Q3.1.2.1.cells
    obtain ⟨q0, q1, q2, q3⟩ := Q3.1.2.2.cells
    obtain ⟨c0, c1, c2, c3⟩ := Q3.2.1.cells
    obtain ⟨d0, d1, d2, d3⟩ := Q3.2.2.cells
    obtain ⟨f0, f1, f2, f3⟩ := Q3.2.1.free
    obtain ⟨h0, h1, h2, h3⟩ := Q3.2.2.free
    have la := Q3.1.2.1.lt
    have lb := Q3.1.2.2.lt
    have lc := Q3.2.1.lt
    have ld := Q3.2.2.lt
    have QH3 := Lib.hid Q3
    clear Q3
    go_wp2_with fail
    refine (K2.out _).mono ?_; rintro e w4 ⟨rfl, b4⟩
    have Q4 := QH3.out.after b4
    clear QH3 b4 K2 p0 p1 p2 p3 q0 q1 q2 q3 c0 c1 c2 c3 d0 d1 d2 d3 f0 f1 f2 f3 h0 h1 h2 h3 la lb lc ld
    obtain ⟨p0, p1, p2, p3⟩ := Q4.1.2.1.cells
    obtain ⟨q0, q1, q2, q3⟩ := Q4.1.2.2.cells
    obtain ⟨c0, c1, c2, c3⟩ := Q4.2.1.cells
    obtain ⟨d0, d1, d2, d3⟩ := Q4.2.2.cells
    obtain ⟨f0, f1, f2, f3⟩ := Q4.2.1.free
    obtain ⟨h0, h1, h2, h3⟩ := Q4.2.2.free
    have la := Q4.1.2.1.lt
    have lb := Q4.1.2.2.lt
    have lc := Q4.2.1.lt
    have ld := Q4.2.2.lt
    have QH4 := Lib.hid Q4
    clear Q4
    go_wp2_with fail
    refine (M.out _).mono ?_; rintro e w5 ⟨rfl, b5⟩
    have Q5 := ((QH4.out.alloc (.cells #[uV a.1.1, uV a.1.2, .int .u64 a.2.1, .int .u64 a.2.2] 28)).alloc (.cells #[uV b.1.1, uV b.1.2, .int .u64 b.2.1, .int .u64 b.2.2] 28)).after b5
    have x5 : Blk w4.heap.size #[uV a.1.1, uV a.1.2, .int .u64 a.2.1, .int .u64 a.2.2] 28 w5 := ((Blk.new w4 _ _ rfl).allocd (.cells #[uV b.1.1, uV b.1.2, .int .u64 b.2.1, .int .u64 b.2.2] 28)).after b5
    have y5 : Blk (w4.heap.size + 1) #[uV b.1.1, uV b.1.2, .int .u64 b.2.1, .int .u64 b.2.2] 28 w5 := Blk.after (Blk.new (w4.alloc (.cells #[uV a.1.1, uV a.1.2, .int .u64 a.2.1, .int .u64 a.2.2] 28)) _ _ (by simp)) b5
    have kg : w.heap.size + 1 + 1 + 1 < w4.heap.size := ld
    clear QH4 b5 p0 p1 p2 p3 q0 q1 q2 q3 c0 c1 c2 c3 d0 d1 d2 d3 f0 f1 f2 f3 h0 h1 h2 h3 la lb lc ld
    generalize w4.heap.size = g at *
    obtain ⟨p0, p1, p2, p3⟩ := Q5.1.2.1.cells
    obtain ⟨q0, q1, q2, q3⟩ := Q5.1.2.2.cells
    obtain ⟨c0, c1, c2, c3⟩ := Q5.2.1.cells
    obtain ⟨d0, d1, d2, d3⟩ := Q5.2.2.cells
    obtain ⟨f0, f1, f2, f3⟩ := Q5.2.1.free
    obtain ⟨h0, h1, h2, h3⟩ := Q5.2.2.free
    have la := Q5.1.2.1.lt
    have lb := Q5.1.2.2.lt
    have lc := Q5.2.1.lt
    have ld := Q5.2.2.lt
    obtain ⟨x0, x1, x2, x3⟩ := Blk.four x5
    obtain ⟨xf0, xf1, xf2, xf3⟩ := Blk.frees x5
    have xl := Blk.lt x5
    obtain ⟨y0, y1, y2, y3⟩ := Blk.four y5
    obtain ⟨yf0, yf1, yf2, yf3⟩ := Blk.frees y5
    have yl := Blk.lt y5
    clear M
    have k5 := yl
    have XE : Hid (FQ a b fZ fZ w (World.alloc (World.setCell (World.setCell (World.setCell (World.setCell (World.setCell (World.setCell (World.setCell (World.setCell w5 ⟨w.heap.size + 1 + 1, 0, none⟩ (.int .u64 0)) ⟨w.heap.size + 1 + 1, 1, none⟩ (.int .u64 0)) ⟨w.heap.size + 1 + 1, 2, none⟩ (.int .u64 0)) ⟨w.heap.size + 1 + 1, 3, none⟩ (.int .u64 0)) ⟨w.heap.size + 1 + 1 + 1, 0, none⟩ (.int .u64 0)) ⟨w.heap.size + 1 + 1 + 1, 1, none⟩ (.int .u64 0)) ⟨w.heap.size + 1 + 1 + 1, 2, none⟩ (.int .u64 0)) ⟨w.heap.size + 1 + 1 + 1, 3, none⟩ (.int .u64 0)) (.cells #[uV t.1, uV t.2] 24))) := Lib.hid (((Q5.xs fZ).ys fZ).alloc (.cells #[uV t.1, uV t.2] 24))
    go_wp2_with fail
    clear p0 p1 p2 p3 q0 q1 q2 q3 c0 c1 c2 c3 d0 d1 d2 d3 f0 f1 f2 f3 h0 h1 h2 h3 la lb lc ld x0 x1 x2 x3 xf0 xf1 xf2 xf3 xl y0 y1 y2 y3 yf0 yf1 yf2 yf3 yl x5 y5 Q5
    generalize (World.alloc (World.setCell (World.setCell (World.setCell (World.setCell (World.setCell (World.setCell (World.setCell (World.setCell w5 ⟨w.heap.size + 1 + 1, 0, none⟩ (.int .u64 0)) ⟨w.heap.size + 1 + 1, 1, none⟩ (.int .u64 0)) ⟨w.heap.size + 1 + 1, 2, none⟩ (.int .u64 0)) ⟨w.heap.size + 1 + 1, 3, none⟩ (.int .u64 0)) ⟨w.heap.size + 1 + 1 + 1, 0, none⟩ (.int .u64 0)) ⟨w.heap.size + 1 + 1 + 1, 1, none⟩ (.int .u64 0)) ⟨w.heap.size + 1 + 1 + 1, 2, none⟩ (.int .u64 0)) ⟨w.heap.size + 1 + 1 + 1, 3, none⟩ (.int .u64 0)) (.cells #[uV t.1, uV t.2] 24)) = uf at *
    obtain ⟨p0, p1, p2, p3⟩ := XE.out.1.2.1.cells
    obtain ⟨q0, q1, q2, q3⟩ := XE.out.1.2.2.cells
    obtain ⟨c0, c1, c2, c3⟩ := XE.out.2.1.cells
    obtain ⟨d0, d1, d2, d3⟩ := XE.out.2.2.cells
    obtain ⟨f0, f1, f2, f3⟩ := XE.out.2.1.free
    obtain ⟨h0, h1, h2, h3⟩ := XE.out.2.2.free
    have la := XE.out.1.2.1.lt
    have lb := XE.out.1.2.2.lt
    have lc := XE.out.2.1.lt
    have ld := XE.out.2.2.lt
    exact bodyPost_ret (v := fTV fZ fZ false) (by simp [results, Try.results34, go_sem, c0, c1, c2, c3, d0, d1, d2, d3, fZ]) rfl ⟨rfl, XE.out.1.1⟩

set_option maxRecDepth 100000 in
set_option maxHeartbeats 8000000 in
theorem rf_if_c_mn (kx ky : Bool) (hk : (kx && ky) = false) (a b : Fc) (w : World)
    (R1 : Hid (∀ w, Calls Try.prog 18 #[fV a] w (Gives (.bool true) w)))
    (R2 : Hid (∀ w, Calls Try.prog 18 #[fV b] w (Gives (.bool true) w)))
    (p : BitVec 64) (K1 : Hid (∀ w, Calls Try.prog 15 #[fV a] w (Gives (.tuple #[uV p, .bool kx]) w)))
    (q : BitVec 64) (K2 : Hid (∀ w, Calls Try.prog 15 #[fV b] w (Gives (.tuple #[uV q, .bool ky]) w)))
    (t : Tn) (M : Hid (∀ w, Calls Try.prog 69 #[tV a.1, tV b.1] w (Gives (tBV t false) w)))
    (hs : a.2.2 < 4294967296 ∧ b.2.2 < 4294967296) :
    Calls Try.prog 34 #[.int .u8 16, .bool false, fV a, fV b] w (Gives (fTV fZ fZ false) w) := by
  cases kx <;> cases ky
  case true.true => cases hk
  all_goals
    clear hk
    obtain ⟨hs1, hs2⟩ := hs
    have hx : Hid (FQ a b fZ fZ w ((((w.alloc (.cells #[uV a.1.1, uV a.1.2, .int .u64 a.2.1, .int .u64 a.2.2] 28)).alloc (.cells #[uV b.1.1, uV b.1.2, .int .u64 b.2.1, .int .u64 b.2.2] 28)).alloc (.cells #[.int .u64 0, .int .u64 0, .int .u64 0, .int .u64 0] 28)).alloc (.cells #[.int .u64 0, .int .u64 0, .int .u64 0, .int .u64 0] 28))) := Lib.hid (FQ.new a b fZ fZ w)
    go_enter Try.func34, Try.ntmps34
    go_wp2_with fail
    refine (R1.out _).mono ?_; rintro e w1 ⟨rfl, b1⟩
    have Q1 := hx.out.after b1
    clear hx b1 R1 
    obtain ⟨p0, p1, p2, p3⟩ := Q1.1.2.1.cells
    obtain ⟨q0, q1, q2, q3⟩ := Q1.1.2.2.cells
    obtain ⟨c0, c1, c2, c3⟩ := Q1.2.1.cells
    obtain ⟨d0, d1, d2, d3⟩ := Q1.2.2.cells
    obtain ⟨f0, f1, f2, f3⟩ := Q1.2.1.free
    obtain ⟨h0, h1, h2, h3⟩ := Q1.2.2.free
    have la := Q1.1.2.1.lt
    have lb := Q1.1.2.2.lt
    have lc := Q1.2.1.lt
    have ld := Q1.2.2.lt
    have QH1 := Lib.hid Q1
    clear Q1
    go_wp2_with fail
    refine (R2.out _).mono ?_; rintro e w2 ⟨rfl, b2⟩
    have Q2 := QH1.out.after b2
    clear QH1 b2 R2 p0 p1 p2 p3 q0 q1 q2 q3 c0 c1 c2 c3 d0 d1 d2 d3 f0 f1 f2 f3 h0 h1 h2 h3 la lb lc ld
    obtain ⟨p0, p1, p2, p3⟩ := Q2.1.2.1.cells
    obtain ⟨q0, q1, q2, q3⟩ := Q2.1.2.2.cells
    obtain ⟨c0, c1, c2, c3⟩ := Q2.2.1.cells
    obtain ⟨d0, d1, d2, d3⟩ := Q2.2.2.cells
    obtain ⟨f0, f1, f2, f3⟩ := Q2.2.1.free
    obtain ⟨h0, h1, h2, h3⟩ := Q2.2.2.free
    have la := Q2.1.2.1.lt
    have lb := Q2.1.2.2.lt
    have lc := Q2.2.1.lt
    have ld := Q2.2.2.lt
    have QH2 := Lib.hid Q2
    clear Q2
    go_wp2_with fail
    refine (K1.out _).mono ?_; rintro e w3 ⟨rfl, b3⟩
    have Q3 := QH2.out.after b3
    clear QH2 b3 K1 p0 p1 p2 p3 q0 q1 q2 q3 c0 c1 c2 c3 d0 d1 d2 d3 f0 f1 f2 f3 h0 h1 h2 h3 la lb lc ld
    obtain ⟨p0, p1, p2, p3⟩ := Q3.1.2.1.cells
    obtain ⟨q0, q1, q2, q3⟩ := Q3.1.2.2.cells
    obtain ⟨c0, c1, c2, c3⟩ := Q3.2.1.cells
    obtain ⟨d0, d1, d2, d3⟩ := Q3.2.2.cells
    obtain ⟨f0, f1, f2, f3⟩ := Q3.2.1.free
    obtain ⟨h0, h1, h2, h3⟩ := Q3.2.2.free
    have la := Q3.1.2.1.lt
    have lb := Q3.1.2.2.lt
    have lc := Q3.2.1.lt
    have ld := Q3.2.2.lt
    have QH3 := Lib.hid Q3
    clear Q3
    go_wp2_with fail
    refine (K2.out _).mono ?_; rintro e w4 ⟨rfl, b4⟩
    have Q4 := QH3.out.after b4
    clear QH3 b4 K2 p0 p1 p2 p3 q0 q1 q2 q3 c0 c1 c2 c3 d0 d1 d2 d3 f0 f1 f2 f3 h0 h1 h2 h3 la lb lc ld
    obtain ⟨p0, p1, p2, p3⟩ := Q4.1.2.1.cells
    obtain ⟨q0, q1, q2, q3⟩ := Q4.1.2.2.cells
    obtain ⟨c0, c1, c2, c3⟩ := Q4.2.1.cells
    obtain ⟨d0, d1, d2, d3⟩ := Q4.2.2.cells
    obtain ⟨f0, f1, f2, f3⟩ := Q4.2.1.free
    obtain ⟨h0, h1, h2, h3⟩ := Q4.2.2.free
    have la := Q4.1.2.1.lt
    have lb := Q4.1.2.2.lt
    have lc := Q4.2.1.lt
    have ld := Q4.2.2.lt
    have QH4 := Lib.hid Q4
    clear Q4
    go_wp2_with fail
    refine (M.out _).mono ?_; rintro e w5 ⟨rfl, b5⟩
    have Q5 := ((QH4.out.alloc (.cells #[uV a.1.1, uV a.1.2, .int .u64 a.2.1, .int .u64 a.2.2] 28)).alloc (.cells #[uV b.1.1, uV b.1.2, .int .u64 b.2.1, .int .u64 b.2.2] 28)).after b5
    have x5 : Blk w4.heap.size #[uV a.1.1, uV a.1.2, .int .u64 a.2.1, .int .u64 a.2.2] 28 w5 := ((Blk.new w4 _ _ rfl).allocd (.cells #[uV b.1.1, uV b.1.2, .int .u64 b.2.1, .int .u64 b.2.2] 28)).after b5
    have y5 : Blk (w4.heap.size + 1) #[uV b.1.1, uV b.1.2, .int .u64 b.2.1, .int .u64 b.2.2] 28 w5 := Blk.after (Blk.new (w4.alloc (.cells #[uV a.1.1, uV a.1.2, .int .u64 a.2.1, .int .u64 a.2.2] 28)) _ _ (by simp)) b5
    have kg : w.heap.size + 1 + 1 + 1 < w4.heap.size := ld
    clear QH4 b5 p0 p1 p2 p3 q0 q1 q2 q3 c0 c1 c2 c3 d0 d1 d2 d3 f0 f1 f2 f3 h0 h1 h2 h3 la lb lc ld
    generalize w4.heap.size = g at *
    obtain ⟨p0, p1, p2, p3⟩ := Q5.1.2.1.cells
    obtain ⟨q0, q1, q2, q3⟩ := Q5.1.2.2.cells
    obtain ⟨c0, c1, c2, c3⟩ := Q5.2.1.cells
    obtain ⟨d0, d1, d2, d3⟩ := Q5.2.2.cells
    obtain ⟨f0, f1, f2, f3⟩ := Q5.2.1.free
    obtain ⟨h0, h1, h2, h3⟩ := Q5.2.2.free
    have la := Q5.1.2.1.lt
    have lb := Q5.1.2.2.lt
    have lc := Q5.2.1.lt
    have ld := Q5.2.2.lt
    obtain ⟨x0, x1, x2, x3⟩ := Blk.four x5
    obtain ⟨xf0, xf1, xf2, xf3⟩ := Blk.frees x5
    have xl := Blk.lt x5
    obtain ⟨y0, y1, y2, y3⟩ := Blk.four y5
    obtain ⟨yf0, yf1, yf2, yf3⟩ := Blk.frees y5
    have yl := Blk.lt y5
    clear M
    have k5 := yl
    have XE : Hid (FQ a b fZ fZ w (World.alloc (World.setCell (World.setCell (World.setCell (World.setCell (World.setCell (World.setCell (World.setCell (World.setCell w5 ⟨w.heap.size + 1 + 1, 0, none⟩ (.int .u64 0)) ⟨w.heap.size + 1 + 1, 1, none⟩ (.int .u64 0)) ⟨w.heap.size + 1 + 1, 2, none⟩ (.int .u64 0)) ⟨w.heap.size + 1 + 1, 3, none⟩ (.int .u64 0)) ⟨w.heap.size + 1 + 1 + 1, 0, none⟩ (.int .u64 0)) ⟨w.heap.size + 1 + 1 + 1, 1, none⟩ (.int .u64 0)) ⟨w.heap.size + 1 + 1 + 1, 2, none⟩ (.int .u64 0)) ⟨w.heap.size + 1 + 1 + 1, 3, none⟩ (.int .u64 0)) (.cells #[uV t.1, uV t.2] 24))) := Lib.hid (((Q5.xs fZ).ys fZ).alloc (.cells #[uV t.1, uV t.2] 24))
    go_wp2_with fail
    clear p0 p1 p2 p3 q0 q1 q2 q3 c0 c1 c2 c3 d0 d1 d2 d3 f0 f1 f2 f3 h0 h1 h2 h3 la lb lc ld x0 x1 x2 x3 xf0 xf1 xf2 xf3 xl y0 y1 y2 y3 yf0 yf1 yf2 yf3 yl x5 y5 Q5
    generalize (World.alloc (World.setCell (World.setCell (World.setCell (World.setCell (World.setCell (World.setCell (World.setCell (World.setCell w5 ⟨w.heap.size + 1 + 1, 0, none⟩ (.int .u64 0)) ⟨w.heap.size + 1 + 1, 1, none⟩ (.int .u64 0)) ⟨w.heap.size + 1 + 1, 2, none⟩ (.int .u64 0)) ⟨w.heap.size + 1 + 1, 3, none⟩ (.int .u64 0)) ⟨w.heap.size + 1 + 1 + 1, 0, none⟩ (.int .u64 0)) ⟨w.heap.size + 1 + 1 + 1, 1, none⟩ (.int .u64 0)) ⟨w.heap.size + 1 + 1 + 1, 2, none⟩ (.int .u64 0)) ⟨w.heap.size + 1 + 1 + 1, 3, none⟩ (.int .u64 0)) (.cells #[uV t.1, uV t.2] 24)) = uf at *
    obtain ⟨p0, p1, p2, p3⟩ := XE.out.1.2.1.cells
    obtain ⟨q0, q1, q2, q3⟩ := XE.out.1.2.2.cells
    obtain ⟨c0, c1, c2, c3⟩ := XE.out.2.1.cells
    obtain ⟨d0, d1, d2, d3⟩ := XE.out.2.2.cells
    obtain ⟨f0, f1, f2, f3⟩ := XE.out.2.1.free
    obtain ⟨h0, h1, h2, h3⟩ := XE.out.2.2.free
    have la := XE.out.1.2.1.lt
    have lb := XE.out.1.2.2.lt
    have lc := XE.out.2.1.lt
    have ld := XE.out.2.2.lt
    exact bodyPost_ret (v := fTV fZ fZ false) (by simp [results, Try.results34, go_sem, c0, c1, c2, c3, d0, d1, d2, d3, fZ]) rfl ⟨rfl, XE.out.1.1⟩

end Go.Proofs.Ytfepokiibdkoeaa


/-
  The document's own answers of layer 6: what is known of both, if a condition holds (8).
  Conditions: the numbers fit their kinds.
-/
namespace Go.Proofs.Ytfepokiibdkoeaa
open Go.RowKit
set_option linter.unusedVariables false

set_option maxRecDepth 100000 in
set_option maxHeartbeats 8000000 in
theorem rf_if_not1 (op : Int) (wide : Bool) (a b : Fc) (w : World)
    (R1 : Hid (∀ w, Calls Try.prog 18 #[fV a] w (Gives (.bool false) w))) :
    Calls Try.prog 34 #[.int .u8 op, .bool wide, fV a, fV b] w (Gives (fTV fZ fZ false) w) := by
  have hx : Hid (FQ a b fZ fZ w ((((w.alloc (.cells #[uV a.1.1, uV a.1.2, .int .u64 a.2.1, .int .u64 a.2.2] 28)).alloc (.cells #[uV b.1.1, uV b.1.2, .int .u64 b.2.1, .int .u64 b.2.2] 28)).alloc (.cells #[.int .u64 0, .int .u64 0, .int .u64 0, .int .u64 0] 28)).alloc (.cells #[.int .u64 0, .int .u64 0, .int .u64 0, .int .u64 0] 28))) := Lib.hid (FQ.new a b fZ fZ w)
  go_enter Try.func34, Try.ntmps34
  go_wp2_with fail
  refine (R1.out _).mono ?_; rintro e w1 ⟨rfl, b1⟩
  have Q1 := hx.out.after b1
  clear hx b1 R1 
  obtain ⟨p0, p1, p2, p3⟩ := Q1.1.2.1.cells
  obtain ⟨q0, q1, q2, q3⟩ := Q1.1.2.2.cells
  obtain ⟨c0, c1, c2, c3⟩ := Q1.2.1.cells
  obtain ⟨d0, d1, d2, d3⟩ := Q1.2.2.cells
  obtain ⟨f0, f1, f2, f3⟩ := Q1.2.1.free
  obtain ⟨h0, h1, h2, h3⟩ := Q1.2.2.free
  have la := Q1.1.2.1.lt
  have lb := Q1.1.2.2.lt
  have lc := Q1.2.1.lt
  have ld := Q1.2.2.lt
  have QH1 := Lib.hid Q1
  clear Q1
  have XE : Hid (FQ a b fZ fZ w (World.setCell (World.setCell (World.setCell (World.setCell (World.setCell (World.setCell (World.setCell (World.setCell w1 ⟨w.heap.size + 1 + 1, 0, none⟩ (.int .u64 0)) ⟨w.heap.size + 1 + 1, 1, none⟩ (.int .u64 0)) ⟨w.heap.size + 1 + 1, 2, none⟩ (.int .u64 0)) ⟨w.heap.size + 1 + 1, 3, none⟩ (.int .u64 0)) ⟨w.heap.size + 1 + 1 + 1, 0, none⟩ (.int .u64 0)) ⟨w.heap.size + 1 + 1 + 1, 1, none⟩ (.int .u64 0)) ⟨w.heap.size + 1 + 1 + 1, 2, none⟩ (.int .u64 0)) ⟨w.heap.size + 1 + 1 + 1, 3, none⟩ (.int .u64 0))) := Lib.hid ((QH1.out.xs fZ).ys fZ)
  go_wp2_with fail
  clear p0 p1 p2 p3 q0 q1 q2 q3 c0 c1 c2 c3 d0 d1 d2 d3 f0 f1 f2 f3 h0 h1 h2 h3 la lb lc ld
  generalize (World.setCell (World.setCell (World.setCell (World.setCell (World.setCell (World.setCell (World.setCell (World.setCell w1 ⟨w.heap.size + 1 + 1, 0, none⟩ (.int .u64 0)) ⟨w.heap.size + 1 + 1, 1, none⟩ (.int .u64 0)) ⟨w.heap.size + 1 + 1, 2, none⟩ (.int .u64 0)) ⟨w.heap.size + 1 + 1, 3, none⟩ (.int .u64 0)) ⟨w.heap.size + 1 + 1 + 1, 0, none⟩ (.int .u64 0)) ⟨w.heap.size + 1 + 1 + 1, 1, none⟩ (.int .u64 0)) ⟨w.heap.size + 1 + 1 + 1, 2, none⟩ (.int .u64 0)) ⟨w.heap.size + 1 + 1 + 1, 3, none⟩ (.int .u64 0)) = uf at *
  obtain ⟨p0, p1, p2, p3⟩ := XE.out.1.2.1.cells
  obtain ⟨q0, q1, q2, q3⟩ := XE.out.1.2.2.cells
  obtain ⟨c0, c1, c2, c3⟩ := XE.out.2.1.cells
  obtain ⟨d0, d1, d2, d3⟩ := XE.out.2.2.cells
  obtain ⟨f0, f1, f2, f3⟩ := XE.out.2.1.free
  obtain ⟨h0, h1, h2, h3⟩ := XE.out.2.2.free
  have la := XE.out.1.2.1.lt
  have lb := XE.out.1.2.2.lt
  have lc := XE.out.2.1.lt
  have ld := XE.out.2.2.lt
  exact bodyPost_ret (v := fTV fZ fZ false) (by simp [results, Try.results34, go_sem, c0, c1, c2, c3, d0, d1, d2, d3, fZ]) rfl ⟨rfl, XE.out.1.1⟩

set_option maxRecDepth 100000 in
set_option maxHeartbeats 8000000 in
theorem rf_if_not2 (op : Int) (wide : Bool) (a b : Fc) (w : World)
    (R1 : Hid (∀ w, Calls Try.prog 18 #[fV a] w (Gives (.bool true) w)))
    (R2 : Hid (∀ w, Calls Try.prog 18 #[fV b] w (Gives (.bool false) w))) :
    Calls Try.prog 34 #[.int .u8 op, .bool wide, fV a, fV b] w (Gives (fTV fZ fZ false) w) := by
  have hx : Hid (FQ a b fZ fZ w ((((w.alloc (.cells #[uV a.1.1, uV a.1.2, .int .u64 a.2.1, .int .u64 a.2.2] 28)).alloc (.cells #[uV b.1.1, uV b.1.2, .int .u64 b.2.1, .int .u64 b.2.2] 28)).alloc (.cells #[.int .u64 0, .int .u64 0, .int .u64 0, .int .u64 0] 28)).alloc (.cells #[.int .u64 0, .int .u64 0, .int .u64 0, .int .u64 0] 28))) := Lib.hid (FQ.new a b fZ fZ w)
  go_enter Try.func34, Try.ntmps34
  go_wp2_with fail
  refine (R1.out _).mono ?_; rintro e w1 ⟨rfl, b1⟩
  have Q1 := hx.out.after b1
  clear hx b1 R1 
  obtain ⟨p0, p1, p2, p3⟩ := Q1.1.2.1.cells
  obtain ⟨q0, q1, q2, q3⟩ := Q1.1.2.2.cells
  obtain ⟨c0, c1, c2, c3⟩ := Q1.2.1.cells
  obtain ⟨d0, d1, d2, d3⟩ := Q1.2.2.cells
  obtain ⟨f0, f1, f2, f3⟩ := Q1.2.1.free
  obtain ⟨h0, h1, h2, h3⟩ := Q1.2.2.free
  have la := Q1.1.2.1.lt
  have lb := Q1.1.2.2.lt
  have lc := Q1.2.1.lt
  have ld := Q1.2.2.lt
  have QH1 := Lib.hid Q1
  clear Q1
  go_wp2_with fail
  refine (R2.out _).mono ?_; rintro e w2 ⟨rfl, b2⟩
  have Q2 := QH1.out.after b2
  clear QH1 b2 R2 p0 p1 p2 p3 q0 q1 q2 q3 c0 c1 c2 c3 d0 d1 d2 d3 f0 f1 f2 f3 h0 h1 h2 h3 la lb lc ld
  obtain ⟨p0, p1, p2, p3⟩ := Q2.1.2.1.cells
  obtain ⟨q0, q1, q2, q3⟩ := Q2.1.2.2.cells
  obtain ⟨c0, c1, c2, c3⟩ := Q2.2.1.cells
  obtain ⟨d0, d1, d2, d3⟩ := Q2.2.2.cells
  obtain ⟨f0, f1, f2, f3⟩ := Q2.2.1.free
  obtain ⟨h0, h1, h2, h3⟩ := Q2.2.2.free
  have la := Q2.1.2.1.lt
  have lb := Q2.1.2.2.lt
  have lc := Q2.2.1.lt
  have ld := Q2.2.2.lt
  have QH2 := Lib.hid Q2
  clear Q2
  have XE : Hid (FQ a b fZ fZ w (World.setCell (World.setCell (World.setCell (World.setCell (World.setCell (World.setCell (World.setCell (World.setCell w2 ⟨w.heap.size + 1 + 1, 0, none⟩ (.int .u64 0)) ⟨w.heap.size + 1 + 1, 1, none⟩ (.int .u64 0)) ⟨w.heap.size + 1 + 1, 2, none⟩ (.int .u64 0)) ⟨w.heap.size + 1 + 1, 3, none⟩ (.int .u64 0)) ⟨w.heap.size + 1 + 1 + 1, 0, none⟩ (.int .u64 0)) ⟨w.heap.size + 1 + 1 + 1, 1, none⟩ (.int .u64 0)) ⟨w.heap.size + 1 + 1 + 1, 2, none⟩ (.int .u64 0)) ⟨w.heap.size + 1 + 1 + 1, 3, none⟩ (.int .u64 0))) := Lib.hid ((QH2.out.xs fZ).ys fZ)
  go_wp2_with fail
  clear p0 p1 p2 p3 q0 q1 q2 q3 c0 c1 c2 c3 d0 d1 d2 d3 f0 f1 f2 f3 h0 h1 h2 h3 la lb lc ld
  generalize (World.setCell (World.setCell (World.setCell (World.setCell (World.setCell (World.setCell (World.setCell (World.setCell w2 ⟨w.heap.size + 1 + 1, 0, none⟩ (.int .u64 0)) ⟨w.heap.size + 1 + 1, 1, none⟩ (.int .u64 0)) ⟨w.heap.size + 1 + 1, 2, none⟩ (.int .u64 0)) ⟨w.heap.size + 1 + 1, 3, none⟩ (.int .u64 0)) ⟨w.heap.size + 1 + 1 + 1, 0, none⟩ (.int .u64 0)) ⟨w.heap.size + 1 + 1 + 1, 1, none⟩ (.int .u64 0)) ⟨w.heap.size + 1 + 1 + 1, 2, none⟩ (.int .u64 0)) ⟨w.heap.size + 1 + 1 + 1, 3, none⟩ (.int .u64 0)) = uf at *
  obtain ⟨p0, p1, p2, p3⟩ := XE.out.1.2.1.cells
  obtain ⟨q0, q1, q2, q3⟩ := XE.out.1.2.2.cells
  obtain ⟨c0, c1, c2, c3⟩ := XE.out.2.1.cells
  obtain ⟨d0, d1, d2, d3⟩ := XE.out.2.2.cells
  obtain ⟨f0, f1, f2, f3⟩ := XE.out.2.1.free
  obtain ⟨h0, h1, h2, h3⟩ := XE.out.2.2.free
  have la := XE.out.1.2.1.lt
  have lb := XE.out.1.2.2.lt
  have lc := XE.out.2.1.lt
  have ld := XE.out.2.2.lt
  exact bodyPost_ret (v := fTV fZ fZ false) (by simp [results, Try.results34, go_sem, c0, c1, c2, c3, d0, d1, d2, d3, fZ]) rfl ⟨rfl, XE.out.1.1⟩

set_option maxRecDepth 100000 in
set_option maxHeartbeats 8000000 in
theorem rf_if_is_err (op : Int) (wide : Bool) (er : Int) (he : (er != 0) = true) (a b : Fc) (w : World)
    (R1 : Hid (∀ w, Calls Try.prog 18 #[fV a] w (Gives (.bool true) w)))
    (R2 : Hid (∀ w, Calls Try.prog 18 #[fV b] w (Gives (.bool true) w)))
    (p : BitVec 64) (K1 : Hid (∀ w, Calls Try.prog 15 #[fV a] w (Gives (.tuple #[uV p, .bool true]) w)))
    (q : BitVec 64) (K2 : Hid (∀ w, Calls Try.prog 15 #[fV b] w (Gives (.tuple #[uV q, .bool true]) w)))
    (v : Bool) (J : Hid (∀ w, Calls Try.prog 37 #[.int .u8 op, .bool wide, uV p, uV q] w (Gives (.tuple #[.bool v, .int .i64 er]) w))) :
    Calls Try.prog 34 #[.int .u8 op, .bool wide, fV a, fV b] w (Gives (fTV fZ fZ false) w) := by
  have hx : Hid (FQ a b fZ fZ w ((((w.alloc (.cells #[uV a.1.1, uV a.1.2, .int .u64 a.2.1, .int .u64 a.2.2] 28)).alloc (.cells #[uV b.1.1, uV b.1.2, .int .u64 b.2.1, .int .u64 b.2.2] 28)).alloc (.cells #[.int .u64 0, .int .u64 0, .int .u64 0, .int .u64 0] 28)).alloc (.cells #[.int .u64 0, .int .u64 0, .int .u64 0, .int .u64 0] 28))) := Lib.hid (FQ.new a b fZ fZ w)
  go_enter Try.func34, Try.ntmps34
  go_wp2_with fail
  refine (R1.out _).mono ?_; rintro e w1 ⟨rfl, b1⟩
  have Q1 := hx.out.after b1
  clear hx b1 R1 
  obtain ⟨p0, p1, p2, p3⟩ := Q1.1.2.1.cells
  obtain ⟨q0, q1, q2, q3⟩ := Q1.1.2.2.cells
  obtain ⟨c0, c1, c2, c3⟩ := Q1.2.1.cells
  obtain ⟨d0, d1, d2, d3⟩ := Q1.2.2.cells
  obtain ⟨f0, f1, f2, f3⟩ := Q1.2.1.free
  obtain ⟨h0, h1, h2, h3⟩ := Q1.2.2.free
  have la := Q1.1.2.1.lt
  have lb := Q1.1.2.2.lt
  have lc := Q1.2.1.lt
  have ld := Q1.2.2.lt
  have QH1 := Lib.hid Q1
  clear Q1
  go_wp2_with fail
  refine (R2.out _).mono ?_; rintro e w2 ⟨rfl, b2⟩
  have Q2 := QH1.out.after b2
  clear QH1 b2 R2 p0 p1 p2 p3 q0 q1 q2 q3 c0 c1 c2 c3 d0 d1 d2 d3 f0 f1 f2 f3 h0 h1 h2 h3 la lb lc ld
  obtain ⟨p0, p1, p2, p3⟩ := Q2.1.2.1.cells
  obtain ⟨q0, q1, q2, q3⟩ := Q2.1.2.2.cells
  obtain ⟨c0, c1, c2, c3⟩ := Q2.2.1.cells
  obtain ⟨d0, d1, d2, d3⟩ := Q2.2.2.cells
  obtain ⟨f0, f1, f2, f3⟩ := Q2.2.1.free
  obtain ⟨h0, h1, h2, h3⟩ := Q2.2.2.free
  have la := Q2.1.2.1.lt
  have lb := Q2.1.2.2.lt
  have lc := Q2.2.1.lt
  have ld := Q2.2.2.lt
  have QH2 := Lib.hid Q2
  clear Q2
  go_wp2_with fail
  refine (K1.out _).mono ?_; rintro e w3 ⟨rfl, b3⟩
  have Q3 := QH2.out.after b3
  clear QH2 b3 K1 p0 p1 p2 p3 q0 q1 q2 q3 c0 c1 c2 c3 d0 d1 d2 d3 f0 f1 f2 f3 h0 h1 h2 h3 la lb lc ld
  obtain ⟨p0, p1, p2, p3⟩ := Q3.1.2.1.cells
  obtain ⟨q0, q1, q2, q3⟩ := Q3.1.2.2.cells
  obtain ⟨c0, c1, c2, c3⟩ := Q3.2.1.cells
  obtain ⟨d0, d1, d2, d3⟩ := Q3.2.2.cells
  obtain ⟨f0, f1, f2, f3⟩ := Q3.2.1.free
  obtain ⟨h0, h1, h2, h3⟩ := Q3.2.2.free
  have la := Q3.1.2.1.lt
  have lb := Q3.1.2.2.lt
  have lc := Q3.2.1.lt
  have ld := Q3.2.2.lt
  have QH3 := Lib.hid Q3
  clear Q3
  go_wp2_with fail
  refine (K2.out _).mono ?_; rintro e w4 ⟨rfl, b4⟩
  have Q4 := QH3.out.after b4
  clear QH3 b4 K2 p0 p1 p2 p3 q0 q1 q2 q3 c0 c1 c2 c3 d0 d1 d2 d3 f0 f1 f2 f3 h0 h1 h2 h3 la lb lc ld
  obtain ⟨p0, p1, p2, p3⟩ := Q4.1.2.1.cells
  obtain ⟨q0, q1, q2, q3⟩ := Q4.1.2.2.cells
  obtain ⟨c0, c1, c2, c3⟩ := Q4.2.1.cells
  obtain ⟨d0, d1, d2, d3⟩ := Q4.2.2.cells
  obtain ⟨f0, f1, f2, f3⟩ := Q4.2.1.free
  obtain ⟨h0, h1, h2, h3⟩ := Q4.2.2.free
  have la := Q4.1.2.1.lt
  have lb := Q4.1.2.2.lt
  have lc := Q4.2.1.lt
  have ld := Q4.2.2.lt
  have QH4 := Lib.hid Q4
  clear Q4
  go_wp2_with fail
  refine (J.out _).mono ?_; rintro e w5 ⟨rfl, b5⟩
  have Q5 := QH4.out.after b5
  clear QH4 b5 J p0 p1 p2 p3 q0 q1 q2 q3 c0 c1 c2 c3 d0 d1 d2 d3 f0 f1 f2 f3 h0 h1 h2 h3 la lb lc ld
  obtain ⟨p0, p1, p2, p3⟩ := Q5.1.2.1.cells
  obtain ⟨q0, q1, q2, q3⟩ := Q5.1.2.2.cells
  obtain ⟨c0, c1, c2, c3⟩ := Q5.2.1.cells
  obtain ⟨d0, d1, d2, d3⟩ := Q5.2.2.cells
  obtain ⟨f0, f1, f2, f3⟩ := Q5.2.1.free
  obtain ⟨h0, h1, h2, h3⟩ := Q5.2.2.free
  have la := Q5.1.2.1.lt
  have lb := Q5.1.2.2.lt
  have lc := Q5.2.1.lt
  have ld := Q5.2.2.lt
  have QH5 := Lib.hid Q5
  clear Q5
  have XE : Hid (FQ a b fZ fZ w (World.setCell (World.setCell (World.setCell (World.setCell (World.setCell (World.setCell (World.setCell (World.setCell w5 ⟨w.heap.size + 1 + 1, 0, none⟩ (.int .u64 0)) ⟨w.heap.size + 1 + 1, 1, none⟩ (.int .u64 0)) ⟨w.heap.size + 1 + 1, 2, none⟩ (.int .u64 0)) ⟨w.heap.size + 1 + 1, 3, none⟩ (.int .u64 0)) ⟨w.heap.size + 1 + 1 + 1, 0, none⟩ (.int .u64 0)) ⟨w.heap.size + 1 + 1 + 1, 1, none⟩ (.int .u64 0)) ⟨w.heap.size + 1 + 1 + 1, 2, none⟩ (.int .u64 0)) ⟨w.heap.size + 1 + 1 + 1, 3, none⟩ (.int .u64 0))) := Lib.hid ((QH5.out.xs fZ).ys fZ)
  go_wp2_with fail
  clear p0 p1 p2 p3 q0 q1 q2 q3 c0 c1 c2 c3 d0 d1 d2 d3 f0 f1 f2 f3 h0 h1 h2 h3 la lb lc ld
  generalize (World.setCell (World.setCell (World.setCell (World.setCell (World.setCell (World.setCell (World.setCell (World.setCell w5 ⟨w.heap.size + 1 + 1, 0, none⟩ (.int .u64 0)) ⟨w.heap.size + 1 + 1, 1, none⟩ (.int .u64 0)) ⟨w.heap.size + 1 + 1, 2, none⟩ (.int .u64 0)) ⟨w.heap.size + 1 + 1, 3, none⟩ (.int .u64 0)) ⟨w.heap.size + 1 + 1 + 1, 0, none⟩ (.int .u64 0)) ⟨w.heap.size + 1 + 1 + 1, 1, none⟩ (.int .u64 0)) ⟨w.heap.size + 1 + 1 + 1, 2, none⟩ (.int .u64 0)) ⟨w.heap.size + 1 + 1 + 1, 3, none⟩ (.int .u64 0)) = uf at *
  obtain ⟨p0, p1, p2, p3⟩ := XE.out.1.2.1.cells
  obtain ⟨q0, q1, q2, q3⟩ := XE.out.1.2.2.cells
  obtain ⟨c0, c1, c2, c3⟩ := XE.out.2.1.cells
  obtain ⟨d0, d1, d2, d3⟩ := XE.out.2.2.cells
  obtain ⟨f0, f1, f2, f3⟩ := XE.out.2.1.free
  obtain ⟨h0, h1, h2, h3⟩ := XE.out.2.2.free
  have la := XE.out.1.2.1.lt
  have lb := XE.out.1.2.2.lt
  have lc := XE.out.2.1.lt
  have ld := XE.out.2.2.lt
  exact bodyPost_ret (v := fTV fZ fZ false) (by simp [results, Try.results34, go_sem, c0, c1, c2, c3, d0, d1, d2, d3, fZ]) rfl ⟨rfl, XE.out.1.1⟩

set_option maxRecDepth 100000 in
set_option maxHeartbeats 8000000 in
theorem rf_if_is_no (op : Int) (wide : Bool) (a b : Fc) (w : World)
    (R1 : Hid (∀ w, Calls Try.prog 18 #[fV a] w (Gives (.bool true) w)))
    (R2 : Hid (∀ w, Calls Try.prog 18 #[fV b] w (Gives (.bool true) w)))
    (p : BitVec 64) (K1 : Hid (∀ w, Calls Try.prog 15 #[fV a] w (Gives (.tuple #[uV p, .bool true]) w)))
    (q : BitVec 64) (K2 : Hid (∀ w, Calls Try.prog 15 #[fV b] w (Gives (.tuple #[uV q, .bool true]) w)))
    (J : Hid (∀ w, Calls Try.prog 37 #[.int .u8 op, .bool wide, uV p, uV q] w (Gives (.tuple #[.bool false, .int .i64 0]) w))) :
    Calls Try.prog 34 #[.int .u8 op, .bool wide, fV a, fV b] w (Gives (fTV fZ fZ false) w) := by
  have hx : Hid (FQ a b fZ fZ w ((((w.alloc (.cells #[uV a.1.1, uV a.1.2, .int .u64 a.2.1, .int .u64 a.2.2] 28)).alloc (.cells #[uV b.1.1, uV b.1.2, .int .u64 b.2.1, .int .u64 b.2.2] 28)).alloc (.cells #[.int .u64 0, .int .u64 0, .int .u64 0, .int .u64 0] 28)).alloc (.cells #[.int .u64 0, .int .u64 0, .int .u64 0, .int .u64 0] 28))) := Lib.hid (FQ.new a b fZ fZ w)
  go_enter Try.func34, Try.ntmps34
  go_wp2_with fail
  refine (R1.out _).mono ?_; rintro e w1 ⟨rfl, b1⟩
  have Q1 := hx.out.after b1
  clear hx b1 R1 
  obtain ⟨p0, p1, p2, p3⟩ := Q1.1.2.1.cells
  obtain ⟨q0, q1, q2, q3⟩ := Q1.1.2.2.cells
  obtain ⟨c0, c1, c2, c3⟩ := Q1.2.1.cells
  obtain ⟨d0, d1, d2, d3⟩ := Q1.2.2.cells
  obtain ⟨f0, f1, f2, f3⟩ := Q1.2.1.free
  obtain ⟨h0, h1, h2, h3⟩ := Q1.2.2.free
  have la := Q1.1.2.1.lt
  have lb := Q1.1.2.2.lt
  have lc := Q1.2.1.lt
  have ld := Q1.2.2.lt
  have QH1 := Lib.hid Q1
  clear Q1
  go_wp2_with fail
  refine (R2.out _).mono ?_; rintro e w2 ⟨rfl, b2⟩
  have Q2 := QH1.out.after b2
  clear QH1 b2 R2 p0 p1 p2 p3 q0 q1 q2 q3 c0 c1 c2 c3 d0 d1 d2 d3 f0 f1 f2 f3 h0 h1 h2 h3 la lb lc ld
  obtain ⟨p0, p1, p2, p3⟩ := Q2.1.2.1.cells
  obtain ⟨q0, q1, q2, q3⟩ := Q2.1.2.2.cells
  obtain ⟨c0, c1, c2, c3⟩ := Q2.2.1.cells
  obtain ⟨d0, d1, d2, d3⟩ := Q2.2.2.cells
  obtain ⟨f0, f1, f2, f3⟩ := Q2.2.1.free
  obtain ⟨h0, h1, h2, h3⟩ := Q2.2.2.free
  have la := Q2.1.2.1.lt
  have lb := Q2.1.2.2.lt
  have lc := Q2.2.1.lt
  have ld := Q2.2.2.lt
  have QH2 := Lib.hid Q2
  clear Q2
  go_wp2_with fail
  refine (K1.out _).mono ?_; rintro e w3 ⟨rfl, b3⟩
  have Q3 := QH2.out.after b3
  clear QH2 b3 K1 p0 p1 p2 p3 q0 q1 q2 q3 c0 c1 c2 c3 d0 d1 d2 d3 f0 f1 f2 f3 h0 h1 h2 h3 la lb lc ld
  obtain ⟨p0, p1, p2, p3⟩ := Q3.1.2.1.cells
  obtain ⟨q0, q1, q2, q3⟩ := Q3.1.2.2.cells
  obtain ⟨c0, c1, c2, c3⟩ := Q3.2.1.cells
  obtain ⟨d0, d1, d2, d3⟩ := Q3.2.2.cells
  obtain ⟨f0, f1, f2, f3⟩ := Q3.2.1.free
  obtain ⟨h0, h1, h2, h3⟩ := Q3.2.2.free
  have la := Q3.1.2.1.lt
  have lb := Q3.1.2.2.lt
  have lc := Q3.2.1.lt
  have ld := Q3.2.2.lt
  have QH3 := Lib.hid Q3
  clear Q3
  go_wp2_with fail
  refine (K2.out _).mono ?_; rintro e w4 ⟨rfl, b4⟩
  have Q4 := QH3.out.after b4
  clear QH3 b4 K2 p0 p1 p2 p3 q0 q1 q2 q3 c0 c1 c2 c3 d0 d1 d2 d3 f0 f1 f2 f3 h0 h1 h2 h3 la lb lc ld
  obtain ⟨p0, p1, p2, p3⟩ := Q4.1.2.1.cells
  obtain ⟨q0, q1, q2, q3⟩ := Q4.1.2.2.cells
  obtain ⟨c0, c1, c2, c3⟩ := Q4.2.1.cells
  obtain ⟨d0, d1, d2, d3⟩ := Q4.2.2.cells
  obtain ⟨f0, f1, f2, f3⟩ := Q4.2.1.free
  obtain ⟨h0, h1, h2, h3⟩ := Q4.2.2.free
  have la := Q4.1.2.1.lt
  have lb := Q4.1.2.2.lt
  have lc := Q4.2.1.lt
  have ld := Q4.2.2.lt
  have QH4 := Lib.hid Q4
  clear Q4
  go_wp2_with fail
  refine (J.out _).mono ?_; rintro e w5 ⟨rfl, b5⟩
  have Q5 := QH4.out.after b5
  clear QH4 b5 J p0 p1 p2 p3 q0 q1 q2 q3 c0 c1 c2 c3 d0 d1 d2 d3 f0 f1 f2 f3 h0 h1 h2 h3 la lb lc ld
  obtain ⟨p0, p1, p2, p3⟩ := Q5.1.2.1.cells
  obtain ⟨q0, q1, q2, q3⟩ := Q5.1.2.2.cells
  obtain ⟨c0, c1, c2, c3⟩ := Q5.2.1.cells
  obtain ⟨d0, d1, d2, d3⟩ := Q5.2.2.cells
  obtain ⟨f0, f1, f2, f3⟩ := Q5.2.1.free
  obtain ⟨h0, h1, h2, h3⟩ := Q5.2.2.free
  have la := Q5.1.2.1.lt
  have lb := Q5.1.2.2.lt
  have lc := Q5.2.1.lt
  have ld := Q5.2.2.lt
  have QH5 := Lib.hid Q5
  clear Q5
  have XE : Hid (FQ a b fZ fZ w (World.setCell (World.setCell (World.setCell (World.setCell (World.setCell (World.setCell (World.setCell (World.setCell w5 ⟨w.heap.size + 1 + 1, 0, none⟩ (.int .u64 0)) ⟨w.heap.size + 1 + 1, 1, none⟩ (.int .u64 0)) ⟨w.heap.size + 1 + 1, 2, none⟩ (.int .u64 0)) ⟨w.heap.size + 1 + 1, 3, none⟩ (.int .u64 0)) ⟨w.heap.size + 1 + 1 + 1, 0, none⟩ (.int .u64 0)) ⟨w.heap.size + 1 + 1 + 1, 1, none⟩ (.int .u64 0)) ⟨w.heap.size + 1 + 1 + 1, 2, none⟩ (.int .u64 0)) ⟨w.heap.size + 1 + 1 + 1, 3, none⟩ (.int .u64 0))) := Lib.hid ((QH5.out.xs fZ).ys fZ)
  go_wp2_with fail
  clear p0 p1 p2 p3 q0 q1 q2 q3 c0 c1 c2 c3 d0 d1 d2 d3 f0 f1 f2 f3 h0 h1 h2 h3 la lb lc ld
  generalize (World.setCell (World.setCell (World.setCell (World.setCell (World.setCell (World.setCell (World.setCell (World.setCell w5 ⟨w.heap.size + 1 + 1, 0, none⟩ (.int .u64 0)) ⟨w.heap.size + 1 + 1, 1, none⟩ (.int .u64 0)) ⟨w.heap.size + 1 + 1, 2, none⟩ (.int .u64 0)) ⟨w.heap.size + 1 + 1, 3, none⟩ (.int .u64 0)) ⟨w.heap.size + 1 + 1 + 1, 0, none⟩ (.int .u64 0)) ⟨w.heap.size + 1 + 1 + 1, 1, none⟩ (.int .u64 0)) ⟨w.heap.size + 1 + 1 + 1, 2, none⟩ (.int .u64 0)) ⟨w.heap.size + 1 + 1 + 1, 3, none⟩ (.int .u64 0)) = uf at *
  obtain ⟨p0, p1, p2, p3⟩ := XE.out.1.2.1.cells
  obtain ⟨q0, q1, q2, q3⟩ := XE.out.1.2.2.cells
  obtain ⟨c0, c1, c2, c3⟩ := XE.out.2.1.cells
  obtain ⟨d0, d1, d2, d3⟩ := XE.out.2.2.cells
  obtain ⟨f0, f1, f2, f3⟩ := XE.out.2.1.free
  obtain ⟨h0, h1, h2, h3⟩ := XE.out.2.2.free
  have la := XE.out.1.2.1.lt
  have lb := XE.out.1.2.2.lt
  have lc := XE.out.2.1.lt
  have ld := XE.out.2.2.lt
  exact bodyPost_ret (v := fTV fZ fZ false) (by simp [results, Try.results34, go_sem, c0, c1, c2, c3, d0, d1, d2, d3, fZ]) rfl ⟨rfl, XE.out.1.1⟩

set_option maxRecDepth 100000 in
set_option maxHeartbeats 8000000 in
theorem rf_if_is_yes (op : Int) (wide : Bool) (a b : Fc) (w : World)
    (R1 : Hid (∀ w, Calls Try.prog 18 #[fV a] w (Gives (.bool true) w)))
    (R2 : Hid (∀ w, Calls Try.prog 18 #[fV b] w (Gives (.bool true) w)))
    (p : BitVec 64) (K1 : Hid (∀ w, Calls Try.prog 15 #[fV a] w (Gives (.tuple #[uV p, .bool true]) w)))
    (q : BitVec 64) (K2 : Hid (∀ w, Calls Try.prog 15 #[fV b] w (Gives (.tuple #[uV q, .bool true]) w)))
    (J : Hid (∀ w, Calls Try.prog 37 #[.int .u8 op, .bool wide, uV p, uV q] w (Gives (.tuple #[.bool true, .int .i64 0]) w))) :
    Calls Try.prog 34 #[.int .u8 op, .bool wide, fV a, fV b] w (Gives (fTV a b true) w) := by
  have hx : Hid (FQ a b fZ fZ w ((((w.alloc (.cells #[uV a.1.1, uV a.1.2, .int .u64 a.2.1, .int .u64 a.2.2] 28)).alloc (.cells #[uV b.1.1, uV b.1.2, .int .u64 b.2.1, .int .u64 b.2.2] 28)).alloc (.cells #[.int .u64 0, .int .u64 0, .int .u64 0, .int .u64 0] 28)).alloc (.cells #[.int .u64 0, .int .u64 0, .int .u64 0, .int .u64 0] 28))) := Lib.hid (FQ.new a b fZ fZ w)
  go_enter Try.func34, Try.ntmps34
  go_wp2_with fail
  refine (R1.out _).mono ?_; rintro e w1 ⟨rfl, b1⟩
  have Q1 := hx.out.after b1
  clear hx b1 R1 
  obtain ⟨p0, p1, p2, p3⟩ := Q1.1.2.1.cells
  obtain ⟨q0, q1, q2, q3⟩ := Q1.1.2.2.cells
  obtain ⟨c0, c1, c2, c3⟩ := Q1.2.1.cells
  obtain ⟨d0, d1, d2, d3⟩ := Q1.2.2.cells
  obtain ⟨f0, f1, f2, f3⟩ := Q1.2.1.free
  obtain ⟨h0, h1, h2, h3⟩ := Q1.2.2.free
  have la := Q1.1.2.1.lt
  have lb := Q1.1.2.2.lt
  have lc := Q1.2.1.lt
  have ld := Q1.2.2.lt
  have QH1 := Lib.hid Q1
  clear Q1
  go_wp2_with fail
  refine (R2.out _).mono ?_; rintro e w2 ⟨rfl, b2⟩
  have Q2 := QH1.out.after b2
  clear QH1 b2 R2 p0 p1 p2 p3 q0 q1 q2 q3 c0 c1 c2 c3 d0 d1 d2 d3 f0 f1 f2 f3 h0 h1 h2 h3 la lb lc ld
  obtain ⟨p0, p1, p2, p3⟩ := Q2.1.2.1.cells
  obtain ⟨q0, q1, q2, q3⟩ := Q2.1.2.2.cells
  obtain ⟨c0, c1, c2, c3⟩ := Q2.2.1.cells
  obtain ⟨d0, d1, d2, d3⟩ := Q2.2.2.cells
  obtain ⟨f0, f1, f2, f3⟩ := Q2.2.1.free
  obtain ⟨h0, h1, h2, h3⟩ := Q2.2.2.free
  have la := Q2.1.2.1.lt
  have lb := Q2.1.2.2.lt
  have lc := Q2.2.1.lt
  have ld := Q2.2.2.lt
  have QH2 := Lib.hid Q2
  clear Q2
  go_wp2_with fail
  refine (K1.out _).mono ?_; rintro e w3 ⟨rfl, b3⟩
  have Q3 := QH2.out.after b3
  clear QH2 b3 K1 p0 p1 p2 p3 q0 q1 q2 q3 c0 c1 c2 c3 d0 d1 d2 d3 f0 f1 f2 f3 h0 h1 h2 h3 la lb lc ld
  obtain ⟨p0, p1, p2, p3⟩ := Q3.1.2.1.cells
  obtain ⟨q0, q1, q2, q3⟩ := Q3.1.2.2.cells
  obtain ⟨c0, c1, c2, c3⟩ := Q3.2.1.cells
  obtain ⟨d0, d1, d2, d3⟩ := Q3.2.2.cells
  obtain ⟨f0, f1, f2, f3⟩ := Q3.2.1.free
  obtain ⟨h0, h1, h2, h3⟩ := Q3.2.2.free
  have la := Q3.1.2.1.lt
  have lb := Q3.1.2.2.lt
  have lc := Q3.2.1.lt
  have ld := Q3.2.2.lt
  have QH3 := Lib.hid Q3
  clear Q3
  go_wp2_with fail
  refine (K2.out _).mono ?_; rintro e w4 ⟨rfl, b4⟩
  have Q4 := QH3.out.after b4
  clear QH3 b4 K2 p0 p1 p2 p3 q0 q1 q2 q3 c0 c1 c2 c3 d0 d1 d2 d3 f0 f1 f2 f3 h0 h1 h2 h3 la lb lc ld
  obtain ⟨p0, p1, p2, p3⟩ := Q4.1.2.1.cells
  obtain ⟨q0, q1, q2, q3⟩ := Q4.1.2.2.cells
  obtain ⟨c0, c1, c2, c3⟩ := Q4.2.1.cells
  obtain ⟨d0, d1, d2, d3⟩ := Q4.2.2.cells
  obtain ⟨f0, f1, f2, f3⟩ := Q4.2.1.free
  obtain ⟨h0, h1, h2, h3⟩ := Q4.2.2.free
  have la := Q4.1.2.1.lt
  have lb := Q4.1.2.2.lt
  have lc := Q4.2.1.lt
  have ld := Q4.2.2.lt
  have QH4 := Lib.hid Q4
  clear Q4
  go_wp2_with fail
  refine (J.out _).mono ?_; rintro e w5 ⟨rfl, b5⟩
  have Q5 := QH4.out.after b5
  clear QH4 b5 J p0 p1 p2 p3 q0 q1 q2 q3 c0 c1 c2 c3 d0 d1 d2 d3 f0 f1 f2 f3 h0 h1 h2 h3 la lb lc ld
  obtain ⟨p0, p1, p2, p3⟩ := Q5.1.2.1.cells
  obtain ⟨q0, q1, q2, q3⟩ := Q5.1.2.2.cells
  obtain ⟨c0, c1, c2, c3⟩ := Q5.2.1.cells
  obtain ⟨d0, d1, d2, d3⟩ := Q5.2.2.cells
  obtain ⟨f0, f1, f2, f3⟩ := Q5.2.1.free
  obtain ⟨h0, h1, h2, h3⟩ := Q5.2.2.free
  have la := Q5.1.2.1.lt
  have lb := Q5.1.2.2.lt
  have lc := Q5.2.1.lt
  have ld := Q5.2.2.lt
  have QH5 := Lib.hid Q5
  clear Q5
  have XE := Lib.hid (((QH5.out.xs a).ys b).after (Below.drew (Below.refl _ _)))
  clear QH5
  go_wp2_with fail
  go_region
  go_wp2_with fail
  exact bodyPost_ret (v := fTV a b true) (by simp [results, Try.results34, go_sem, c0, c1, c2, c3, d0, d1, d2, d3]) rfl ⟨rfl, XE.out.1.1⟩

set_option maxRecDepth 100000 in
set_option maxHeartbeats 8000000 in
theorem rf_if_long_a (op : Int) (kx ky : Bool) (hk : (kx && ky) = false) (a b : Fc) (w : World)
    (R1 : Hid (∀ w, Calls Try.prog 18 #[fV a] w (Gives (.bool true) w)))
    (R2 : Hid (∀ w, Calls Try.prog 18 #[fV b] w (Gives (.bool true) w)))
    (p : BitVec 64) (K1 : Hid (∀ w, Calls Try.prog 15 #[fV a] w (Gives (.tuple #[uV p, .bool kx]) w)))
    (q : BitVec 64) (K2 : Hid (∀ w, Calls Try.prog 15 #[fV b] w (Gives (.tuple #[uV q, .bool ky]) w)))
    (ha : 4294967296 ≤ a.2.2) :
    Calls Try.prog 34 #[.int .u8 op, .bool false, fV a, fV b] w (Gives (fTV a b true) w) := by
  cases kx <;> cases ky
  case true.true => cases hk
  all_goals
    clear hk
    have hx : Hid (FQ a b fZ fZ w ((((w.alloc (.cells #[uV a.1.1, uV a.1.2, .int .u64 a.2.1, .int .u64 a.2.2] 28)).alloc (.cells #[uV b.1.1, uV b.1.2, .int .u64 b.2.1, .int .u64 b.2.2] 28)).alloc (.cells #[.int .u64 0, .int .u64 0, .int .u64 0, .int .u64 0] 28)).alloc (.cells #[.int .u64 0, .int .u64 0, .int .u64 0, .int .u64 0] 28))) := Lib.hid (FQ.new a b fZ fZ w)
    go_enter Try.func34, Try.ntmps34
    go_wp2_with fail
    refine (R1.out _).mono ?_; rintro e w1 ⟨rfl, b1⟩
    have Q1 := hx.out.after b1
    clear hx b1 R1 
    obtain ⟨p0, p1, p2, p3⟩ := Q1.1.2.1.cells
    obtain ⟨q0, q1, q2, q3⟩ := Q1.1.2.2.cells
    obtain ⟨c0, c1, c2, c3⟩ := Q1.2.1.cells
    obtain ⟨d0, d1, d2, d3⟩ := Q1.2.2.cells
    obtain ⟨f0, f1, f2, f3⟩ := Q1.2.1.free
    obtain ⟨h0, h1, h2, h3⟩ := Q1.2.2.free
    have la := Q1.1.2.1.lt
    have lb := Q1.1.2.2.lt
    have lc := Q1.2.1.lt
    have ld := Q1.2.2.lt
    have QH1 := Lib.hid Q1
    clear Q1
    go_wp2_with fail
    refine (R2.out _).mono ?_; rintro e w2 ⟨rfl, b2⟩
    have Q2 := QH1.out.after b2
    clear QH1 b2 R2 p0 p1 p2 p3 q0 q1 q2 q3 c0 c1 c2 c3 d0 d1 d2 d3 f0 f1 f2 f3 h0 h1 h2 h3 la lb lc ld
    obtain ⟨p0, p1, p2, p3⟩ := Q2.1.2.1.cells
    obtain ⟨q0, q1, q2, q3⟩ := Q2.1.2.2.cells
    obtain ⟨c0, c1, c2, c3⟩ := Q2.2.1.cells
    obtain ⟨d0, d1, d2, d3⟩ := Q2.2.2.cells
    obtain ⟨f0, f1, f2, f3⟩ := Q2.2.1.free
    obtain ⟨h0, h1, h2, h3⟩ := Q2.2.2.free
    have la := Q2.1.2.1.lt
    have lb := Q2.1.2.2.lt
    have lc := Q2.2.1.lt
    have ld := Q2.2.2.lt
    have QH2 := Lib.hid Q2
    clear Q2
    go_wp2_with fail
    refine (K1.out _).mono ?_; rintro e w3 ⟨rfl, b3⟩
    have Q3 := QH2.out.after b3
    clear QH2 b3 K1 p0 p1 p2 p3 q0 q1 q2 q3 c0 c1 c2 c3 d0 d1 d2 d3 f0 f1 f2 f3 h0 h1 h2 h3 la lb lc ld
    obtain ⟨p0, p1, p2, p3⟩ := Q3.1.2.1.cells
    obtain ⟨q0, q1, q2, q3⟩ := Q3.1.2.2.cells
    obtain ⟨c0, c1, c2, c3⟩ := Q3.2.1.cells
    obtain ⟨d0, d1, d2, d3⟩ := Q3.2.2.cells
    obtain ⟨f0, f1, f2, f3⟩ := Q3.2.1.free
    obtain ⟨h0, h1, h2, h3⟩ := Q3.2.2.free
    have la := Q3.1.2.1.lt
    have lb := Q3.1.2.2.lt
    have lc := Q3.2.1.lt
    have ld := Q3.2.2.lt
    have QH3 := Lib.hid Q3
    clear Q3
    go_wp2_with fail
    refine (K2.out _).mono ?_; rintro e w4 ⟨rfl, b4⟩
    have Q4 := QH3.out.after b4
    clear QH3 b4 K2 p0 p1 p2 p3 q0 q1 q2 q3 c0 c1 c2 c3 d0 d1 d2 d3 f0 f1 f2 f3 h0 h1 h2 h3 la lb lc ld
    obtain ⟨p0, p1, p2, p3⟩ := Q4.1.2.1.cells
    obtain ⟨q0, q1, q2, q3⟩ := Q4.1.2.2.cells
    obtain ⟨c0, c1, c2, c3⟩ := Q4.2.1.cells
    obtain ⟨d0, d1, d2, d3⟩ := Q4.2.2.cells
    obtain ⟨f0, f1, f2, f3⟩ := Q4.2.1.free
    obtain ⟨h0, h1, h2, h3⟩ := Q4.2.2.free
    have la := Q4.1.2.1.lt
    have lb := Q4.1.2.2.lt
    have lc := Q4.2.1.lt
    have ld := Q4.2.2.lt
    have QH4 := Lib.hid Q4
    clear Q4
    have XE := Lib.hid (((QH4.out.xs a).ys b).after (Below.drew (Below.refl _ _)))
    clear QH4
    go_wp2_with fail
    go_region
    go_wp2_with fail
    exact bodyPost_ret (v := fTV a b true) (by simp [results, Try.results34, go_sem, c0, c1, c2, c3, d0, d1, d2, d3]) rfl ⟨rfl, XE.out.1.1⟩

set_option maxRecDepth 100000 in
set_option maxHeartbeats 8000000 in
theorem rf_if_long_b (op : Int) (kx ky : Bool) (hk : (kx && ky) = false) (a b : Fc) (w : World)
    (R1 : Hid (∀ w, Calls Try.prog 18 #[fV a] w (Gives (.bool true) w)))
    (R2 : Hid (∀ w, Calls Try.prog 18 #[fV b] w (Gives (.bool true) w)))
    (p : BitVec 64) (K1 : Hid (∀ w, Calls Try.prog 15 #[fV a] w (Gives (.tuple #[uV p, .bool kx]) w)))
    (q : BitVec 64) (K2 : Hid (∀ w, Calls Try.prog 15 #[fV b] w (Gives (.tuple #[uV q, .bool ky]) w)))
    (ha : a.2.2 < 4294967296) (hb : 4294967296 ≤ b.2.2) :
    Calls Try.prog 34 #[.int .u8 op, .bool false, fV a, fV b] w (Gives (fTV a b true) w) := by
  cases kx <;> cases ky
  case true.true => cases hk
  all_goals
    clear hk
    have hx : Hid (FQ a b fZ fZ w ((((w.alloc (.cells #[uV a.1.1, uV a.1.2, .int .u64 a.2.1, .int .u64 a.2.2] 28)).alloc (.cells #[uV b.1.1, uV b.1.2, .int .u64 b.2.1, .int .u64 b.2.2] 28)).alloc (.cells #[.int .u64 0, .int .u64 0, .int .u64 0, .int .u64 0] 28)).alloc (.cells #[.int .u64 0, .int .u64 0, .int .u64 0, .int .u64 0] 28))) := Lib.hid (FQ.new a b fZ fZ w)
    go_enter Try.func34, Try.ntmps34
    go_wp2_with fail
    refine (R1.out _).mono ?_; rintro e w1 ⟨rfl, b1⟩
    have Q1 := hx.out.after b1
    clear hx b1 R1 
    obtain ⟨p0, p1, p2, p3⟩ := Q1.1.2.1.cells
    obtain ⟨q0, q1, q2, q3⟩ := Q1.1.2.2.cells
    obtain ⟨c0, c1, c2, c3⟩ := Q1.2.1.cells
    obtain ⟨d0, d1, d2, d3⟩ := Q1.2.2.cells
    obtain ⟨f0, f1, f2, f3⟩ := Q1.2.1.free
    obtain ⟨h0, h1, h2, h3⟩ := Q1.2.2.free
    have la := Q1.1.2.1.lt
    have lb := Q1.1.2.2.lt
    have lc := Q1.2.1.lt
    have ld := Q1.2.2.lt
    have QH1 := Lib.hid Q1
    clear Q1
    go_wp2_with fail
    refine (R2.out _).mono ?_; rintro e w2 ⟨rfl, b2⟩
    have Q2 := QH1.out.after b2
    clear QH1 b2 R2 p0 p1 p2 p3 q0 q1 q2 q3 c0 c1 c2 c3 d0 d1 d2 d3 f0 f1 f2 f3 h0 h1 h2 h3 la lb lc ld
    obtain ⟨p0, p1, p2, p3⟩ := Q2.1.2.1.cells
    obtain ⟨q0, q1, q2, q3⟩ := Q2.1.2.2.cells
    obtain ⟨c0, c1, c2, c3⟩ := Q2.2.1.cells
    obtain ⟨d0, d1, d2, d3⟩ := Q2.2.2.cells
    obtain ⟨f0, f1, f2, f3⟩ := Q2.2.1.free
    obtain ⟨h0, h1, h2, h3⟩ := Q2.2.2.free
    have la := Q2.1.2.1.lt
    have lb := Q2.1.2.2.lt
    have lc := Q2.2.1.lt
    have ld := Q2.2.2.lt
    have QH2 := Lib.hid Q2
    clear Q2
    go_wp2_with fail
    refine (K1.out _).mono ?_; rintro e w3 ⟨rfl, b3⟩
    have Q3 := QH2.out.after b3
    clear QH2 b3 K1 p0 p1 p2 p3 q0 q1 q2 q3 c0 c1 c2 c3 d0 d1 d2 d3 f0 f1 f2 f3 h0 h1 h2 h3 la lb lc ld
    obtain ⟨p0, p1, p2, p3⟩ := Q3.1.2.1.cells
    obtain ⟨q0, q1, q2, q3⟩ := Q3.1.2.2.cells
    obtain ⟨c0, c1, c2, c3⟩ := Q3.2.1.cells
    obtain ⟨d0, d1, d2, d3⟩ := Q3.2.2.cells
    obtain ⟨f0, f1, f2, f3⟩ := Q3.2.1.free
    obtain ⟨h0, h1, h2, h3⟩ := Q3.2.2.free
    have la := Q3.1.2.1.lt
    have lb := Q3.1.2.2.lt
    have lc := Q3.2.1.lt
    have ld := Q3.2.2.lt
    have QH3 := Lib.hid Q3
    clear Q3
    go_wp2_with fail
    refine (K2.out _).mono ?_; rintro e w4 ⟨rfl, b4⟩
    have Q4 := QH3.out.after b4
    clear QH3 b4 K2 p0 p1 p2 p3 q0 q1 q2 q3 c0 c1 c2 c3 d0 d1 d2 d3 f0 f1 f2 f3 h0 h1 h2 h3 la lb lc ld
    obtain ⟨p0, p1, p2, p3⟩ := Q4.1.2.1.cells
    obtain ⟨q0, q1, q2, q3⟩ := Q4.1.2.2.cells
    obtain ⟨c0, c1, c2, c3⟩ := Q4.2.1.cells
    obtain ⟨d0, d1, d2, d3⟩ := Q4.2.2.cells
    obtain ⟨f0, f1, f2, f3⟩ := Q4.2.1.free
    obtain ⟨h0, h1, h2, h3⟩ := Q4.2.2.free
    have la := Q4.1.2.1.lt
    have lb := Q4.1.2.2.lt
    have lc := Q4.2.1.lt
    have ld := Q4.2.2.lt
    have QH4 := Lib.hid Q4
    clear Q4
    have XE := Lib.hid (((QH4.out.xs a).ys b).after (Below.drew (Below.refl _ _)))
    clear QH4
    go_wp2_with fail
    go_region
    go_wp2_with fail
    exact bodyPost_ret (v := fTV a b true) (by simp [results, Try.results34, go_sem, c0, c1, c2, c3, d0, d1, d2, d3]) rfl ⟨rfl, XE.out.1.1⟩

end Go.Proofs.Ytfepokiibdkoeaa

