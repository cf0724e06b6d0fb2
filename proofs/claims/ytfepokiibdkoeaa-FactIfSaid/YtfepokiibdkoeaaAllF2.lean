/-
  The document's own If of layer 6.
  Conditions: those that each theorem states.
-/
import Derived.Test.YtfepokiibdkoeaaAllF0

/-
  The document's own answers of layer 6: what is known of both, if a condition holds (3).
  Conditions: the numbers fit their kinds.
-/
namespace Go.Proofs.Ytfepokiibdkoeaa
open Go.RowKit
set_option linter.unusedVariables false

set_option maxRecDepth 100000 in
set_option maxHeartbeats 8000000 in
theorem rf_if_b_ttw (op : Int) (ho : (op == 16) = false) (kx ky : Bool) (hk : (kx && ky) = false) (a b : Fc) (w : World)
    (R1 : Hid (∀ w, Calls Try.prog 18 #[fV a] w (Gives (.bool true) w)))
    (R2 : Hid (∀ w, Calls Try.prog 18 #[fV b] w (Gives (.bool true) w)))
    (p : BitVec 64) (K1 : Hid (∀ w, Calls Try.prog 15 #[fV a] w (Gives (.tuple #[uV p, .bool kx]) w)))
    (q : BitVec 64) (K2 : Hid (∀ w, Calls Try.prog 15 #[fV b] w (Gives (.tuple #[uV q, .bool ky]) w)))
    (s1 : Sp) (k1 : Bool) (I1 : Hid (∀ w, Calls Try.prog 70 #[.int .u8 op, sV a.2, sV b.2] w (Gives (sBV s1 k1) w)))
    (x : Fc) (V1 : Hid (∀ w, Calls Try.prog 71 #[fV a, sV s1, .bool k1] w (Gives (fBV x true) w)))
    (tn : Int) (T : Hid (∀ w, Calls Try.prog 72 #[.int .u8 op] w (Gives (.tuple #[.int .u8 tn, .bool true]) w)))
    (s2 : Sp) (k2 : Bool) (I2 : Hid (∀ w, Calls Try.prog 70 #[.int .u8 tn, sV b.2, sV a.2] w (Gives (sBV s2 k2) w)))
    (y : Fc) (V2 : Hid (∀ w, Calls Try.prog 71 #[fV b, sV s2, .bool k2] w (Gives (fBV y true) w))) :
    Calls Try.prog 34 #[.int .u8 op, .bool true, fV a, fV b] w (Gives (fTV x y true) w) := by
  cases kx <;> cases ky
  case true.true => cases hk
  all_goals
    clear hk
    have hx : Hid (FQ a b fZ fZ w ((((w.alloc (.cells #[uV a.1.1, uV a.1.2, .int .u64 a.2.1, .int .u64 a.2.2] 28)).alloc (.cells #[uV b.1.1, uV b.1.2, .int .u64 b.2.1, .int .u64 b.2.2] 28)).alloc (.cells #[.int .u64 0, .int .u64 0, .int .u64 0, .int .u64 0] 28)).alloc (.cells #[.int .u64 0, .int .u64 0, .int .u64 0, .int .u64 0] 28))) := Lib.hid (FQ.new a b fZ fZ w)
    go_enter Try.func34, Try.ntmps34
    go_wp2_with fail
    refine (R1.out _).mono ?_; rintro e w1 ⟨rfl, b1⟩
    have Q1 := hx.out.after b1
    clear hx b1 R1 
    obtain ⟨p0, p1, p2, p3⟩ := Q1.1.2.1.cells
    obtain ⟨q0, q1, q2, q3⟩ := Q1.1.2.2.cells
    obtain ⟨c0, c1, c2, c3⟩ := Q1.2.1.cells
    obtain ⟨d0, d1, d2, d3⟩ := Q1.2.2.cells
    obtain ⟨f0, f1, f2, f3⟩ := Q1.2.1.free
    obtain ⟨h0, h1, h2, h3⟩ := Q1.2.2.free
    have la := Q1.1.2.1.lt
    have lb := Q1.1.2.2.lt
    have lc := Q1.2.1.lt
    have ld := Q1.2.2.lt
    have QH1 := Lib.hid Q1
    clear Q1
    go_wp2_with fail
    refine (R2.out _).mono ?_; rintro e w2 ⟨rfl, b2⟩
    have Q2 := QH1.out.after b2
    clear QH1 b2 R2 p0 p1 p2 p3 q0 q1 q2 q3 c0 c1 c2 c3 d0 d1 d2 d3 f0 f1 f2 f3 h0 h1 h2 h3 la lb lc ld
    obtain ⟨p0, p1, p2, p3⟩ := Q2.1.2.1.cells
    obtain ⟨q0, q1, q2, q3⟩ := Q2.1.2.2.cells
    obtain ⟨c0, c1, c2, c3⟩ := Q2.2.1.cells
    obtain ⟨d0, d1, d2, d3⟩ := Q2.2.2.cells
    obtain ⟨f0, f1, f2, f3⟩ := Q2.2.1.free
    obtain ⟨h0, h1, h2, h3⟩ := Q2.2.2.free
    have la := Q2.1.2.1.lt
    have lb := Q2.1.2.2.lt
    have lc := Q2.2.1.lt
    have ld := Q2.2.2.lt
    have QH2 := Lib.hid Q2
    clear Q2
    go_wp2_with fail
    refine (K1.out _).mono ?_; rintro e w3 ⟨rfl, b3⟩
    have Q3 := QH2.out.after b3
    clear QH2 b3 K1 p0 p1 p2 p3 q0 q1 q2 q3 c0 c1 c2 c3 d0 d1 d2 d3 f0 f1 f2 f3 h0 h1 h2 h3 la lb lc ld
    obtain ⟨p0, p1, p2, p3⟩ := Q3.1.2.1.cells
    obtain ⟨q0, q1, q2, q3⟩ := Q3.1.2.2.cells
    obtain ⟨c0, c1, c2, c3⟩ := Q3.2.1.cells
    obtain ⟨d0, d1, d2, d3⟩ := Q3.2.2.cells
    obtain ⟨f0, f1, f2, f3⟩ := Q3.2.1.free
    obtain ⟨h0, h1, h2, h3⟩ := Q3.2.2.free
    have la := Q3.1.2.1.lt
    have lb := Q3.1.2.2.lt
    have lc := Q3.2.1.lt
    have ld := Q3.2.2.lt
    have QH3 := Lib.hid Q3
    clear Q3
    go_wp2_with fail
    refine (K2.out _).mono ?_; rintro e w4 ⟨rfl, b4⟩
    have Q4 := QH3.out.after b4
    clear QH3 b4 K2 p0 p1 p2 p3 q0 q1 q2 q3 c0 c1 c2 c3 d0 d1 d2 d3 f0 f1 f2 f3 h0 h1 h2 h3 la lb lc ld
    obtain ⟨p0, p1, p2, p3⟩ := Q4.1.2.1.cells
    obtain ⟨q0, q1, q2, q3⟩ := Q4.1.2.2.cells
    obtain ⟨c0, c1, c2, c3⟩ := Q4.2.1.cells
    obtain ⟨d0, d1, d2, d3⟩ := Q4.2.2.cells
    obtain ⟨f0, f1, f2, f3⟩ := Q4.2.1.free
    obtain ⟨h0, h1, h2, h3⟩ := Q4.2.2.free
    have la := Q4.1.2.1.lt
    have lb := Q4.1.2.2.lt
    have lc := Q4.2.1.lt
    have ld := Q4.2.2.lt
    have QH4 := Lib.hid Q4
    clear Q4
    go_wp2_with fail
    refine (I1.out _).mono ?_; rintro e w5 ⟨rfl, b5⟩
    have Q5 := ((QH4.out.alloc (.cells #[uV a.1.1, uV a.1.2, .int .u64 a.2.1, .int .u64 a.2.2] 28)).alloc (.cells #[uV b.1.1, uV b.1.2, .int .u64 b.2.1, .int .u64 b.2.2] 28)).after b5
    have x5 : Blk w4.heap.size #[uV a.1.1, uV a.1.2, .int .u64 a.2.1, .int .u64 a.2.2] 28 w5 := ((Blk.new w4 _ _ rfl).allocd (.cells #[uV b.1.1, uV b.1.2, .int .u64 b.2.1, .int .u64 b.2.2] 28)).after b5
    have y5 : Blk (w4.heap.size + 1) #[uV b.1.1, uV b.1.2, .int .u64 b.2.1, .int .u64 b.2.2] 28 w5 := Blk.after (Blk.new (w4.alloc (.cells #[uV a.1.1, uV a.1.2, .int .u64 a.2.1, .int .u64 a.2.2] 28)) _ _ (by simp)) b5
    have kg : w.heap.size + 1 + 1 + 1 < w4.heap.size := ld
    clear QH4 b5 p0 p1 p2 p3 q0 q1 q2 q3 c0 c1 c2 c3 d0 d1 d2 d3 f0 f1 f2 f3 h0 h1 h2 h3 la lb lc ld
    generalize w4.heap.size = g at *
    obtain ⟨p0, p1, p2, p3⟩ := Q5.1.2.1.cells
    obtain ⟨q0, q1, q2, q3⟩ := Q5.1.2.2.cells
    obtain ⟨c0, c1, c2, c3⟩ := Q5.2.1.cells
    obtain ⟨d0, d1, d2, d3⟩ := Q5.2.2.cells
    obtain ⟨f0, f1, f2, f3⟩ := Q5.2.1.free
    obtain ⟨h0, h1, h2, h3⟩ := Q5.2.2.free
    have la := Q5.1.2.1.lt
    have lb := Q5.1.2.2.lt
    have lc := Q5.2.1.lt
    have ld := Q5.2.2.lt
    obtain ⟨x0, x1, x2, x3⟩ := Blk.four x5
    obtain ⟨xf0, xf1, xf2, xf3⟩ := Blk.frees x5
    have xl := Blk.lt x5
    obtain ⟨y0, y1, y2, y3⟩ := Blk.four y5
    obtain ⟨yf0, yf1, yf2, yf3⟩ := Blk.frees y5
    have yl := Blk.lt y5
    clear I1
    have QH := Lib.hid Q5
    have xH := Lib.hid x5
    have yH := Lib.hid y5
    clear Q5 x5 y5
    go_wp2_with fail
    refine (V1.out _).mono ?_; rintro e w6 ⟨rfl, b6⟩
    have Q6 := (QH.out.alloc (.cells #[.int .u64 s1.1, .int .u64 s1.2] 26)).after b6
    have x6 := Blk.after (xH.out.allocd (.cells #[.int .u64 s1.1, .int .u64 s1.2] 26)) b6
    have y6 := Blk.after (yH.out.allocd (.cells #[.int .u64 s1.1, .int .u64 s1.2] 26)) b6
    clear QH xH yH b6 p0 p1 p2 p3 q0 q1 q2 q3 c0 c1 c2 c3 d0 d1 d2 d3 f0 f1 f2 f3 h0 h1 h2 h3 la lb lc ld x0 x1 x2 x3 xf0 xf1 xf2 xf3 xl y0 y1 y2 y3 yf0 yf1 yf2 yf3 yl
    obtain ⟨p0, p1, p2, p3⟩ := Q6.1.2.1.cells
    obtain ⟨q0, q1, q2, q3⟩ := Q6.1.2.2.cells
    obtain ⟨c0, c1, c2, c3⟩ := Q6.2.1.cells
    obtain ⟨d0, d1, d2, d3⟩ := Q6.2.2.cells
    obtain ⟨f0, f1, f2, f3⟩ := Q6.2.1.free
    obtain ⟨h0, h1, h2, h3⟩ := Q6.2.2.free
    have la := Q6.1.2.1.lt
    have lb := Q6.1.2.2.lt
    have lc := Q6.2.1.lt
    have ld := Q6.2.2.lt
    obtain ⟨x0, x1, x2, x3⟩ := Blk.four x6
    obtain ⟨xf0, xf1, xf2, xf3⟩ := Blk.frees x6
    have xl := Blk.lt x6
    obtain ⟨y0, y1, y2, y3⟩ := Blk.four y6
    obtain ⟨yf0, yf1, yf2, yf3⟩ := Blk.frees y6
    have yl := Blk.lt y6
    have QH := Lib.hid Q6
    have xH := Lib.hid x6
    have yH := Lib.hid y6
    clear Q6 x6 y6
    clear V1
    go_wp2_with fail
    refine (T.out _).mono ?_; rintro e w7 ⟨rfl, b7⟩
    have Q7 := (QH.out.other4 (k := g) (by omega) (uV x.1.1) (uV x.1.2) (.int .u64 x.2.1) (.int .u64 x.2.2)).after b7
    have x7 := Blk.after (Blk.set4 xH.out (uV x.1.1) (uV x.1.2) (.int .u64 x.2.1) (.int .u64 x.2.2)) b7
    have y7 := Blk.after (Blk.other4 (k := g) yH.out (by omega) (uV x.1.1) (uV x.1.2) (.int .u64 x.2.1) (.int .u64 x.2.2)) b7
    clear QH xH yH b7 p0 p1 p2 p3 q0 q1 q2 q3 c0 c1 c2 c3 d0 d1 d2 d3 f0 f1 f2 f3 h0 h1 h2 h3 la lb lc ld x0 x1 x2 x3 xf0 xf1 xf2 xf3 xl y0 y1 y2 y3 yf0 yf1 yf2 yf3 yl
    obtain ⟨p0, p1, p2, p3⟩ := Q7.1.2.1.cells
    obtain ⟨q0, q1, q2, q3⟩ := Q7.1.2.2.cells
    obtain ⟨c0, c1, c2, c3⟩ := Q7.2.1.cells
    obtain ⟨d0, d1, d2, d3⟩ := Q7.2.2.cells
    obtain ⟨f0, f1, f2, f3⟩ := Q7.2.1.free
    obtain ⟨h0, h1, h2, h3⟩ := Q7.2.2.free
    have la := Q7.1.2.1.lt
    have lb := Q7.1.2.2.lt
    have lc := Q7.2.1.lt
    have ld := Q7.2.2.lt
    obtain ⟨x0, x1, x2, x3⟩ := Blk.four x7
    obtain ⟨xf0, xf1, xf2, xf3⟩ := Blk.frees x7
    have xl := Blk.lt x7
    obtain ⟨y0, y1, y2, y3⟩ := Blk.four y7
    obtain ⟨yf0, yf1, yf2, yf3⟩ := Blk.frees y7
    have yl := Blk.lt y7
    have QH := Lib.hid Q7
    have xH := Lib.hid x7
    have yH := Lib.hid y7
    clear Q7 x7 y7
    clear T
    go_wp2_with fail
    refine (I2.out _).mono ?_; rintro e w8 ⟨rfl, b8⟩
    have r8 : Blk w7.heap.size #[.int .u64 b.2.1, .int .u64 b.2.2] 26 w8 := Blk.after (Blk.new w7 _ _ rfl) b8
    have kr : g + 1 < w7.heap.size := yl
    have Q8 := (QH.out.alloc (.cells #[.int .u64 b.2.1, .int .u64 b.2.2] 26)).after b8
    have x8 := Blk.after (xH.out.allocd (.cells #[.int .u64 b.2.1, .int .u64 b.2.2] 26)) b8
    have y8 := Blk.after (yH.out.allocd (.cells #[.int .u64 b.2.1, .int .u64 b.2.2] 26)) b8
    clear QH xH yH b8 p0 p1 p2 p3 q0 q1 q2 q3 c0 c1 c2 c3 d0 d1 d2 d3 f0 f1 f2 f3 h0 h1 h2 h3 la lb lc ld x0 x1 x2 x3 xf0 xf1 xf2 xf3 xl y0 y1 y2 y3 yf0 yf1 yf2 yf3 yl
    obtain ⟨p0, p1, p2, p3⟩ := Q8.1.2.1.cells
    obtain ⟨q0, q1, q2, q3⟩ := Q8.1.2.2.cells
    obtain ⟨c0, c1, c2, c3⟩ := Q8.2.1.cells
    obtain ⟨d0, d1, d2, d3⟩ := Q8.2.2.cells
    obtain ⟨f0, f1, f2, f3⟩ := Q8.2.1.free
    obtain ⟨h0, h1, h2, h3⟩ := Q8.2.2.free
    have la := Q8.1.2.1.lt
    have lb := Q8.1.2.2.lt
    have lc := Q8.2.1.lt
    have ld := Q8.2.2.lt
    obtain ⟨x0, x1, x2, x3⟩ := Blk.four x8
    obtain ⟨xf0, xf1, xf2, xf3⟩ := Blk.frees x8
    have xl := Blk.lt x8
    obtain ⟨y0, y1, y2, y3⟩ := Blk.four y8
    obtain ⟨yf0, yf1, yf2, yf3⟩ := Blk.frees y8
    have yl := Blk.lt y8
    have QH := Lib.hid Q8
    have xH := Lib.hid x8
    have yH := Lib.hid y8
    clear Q8 x8 y8
    clear I2
    generalize w7.heap.size = gr at *
    obtain ⟨r0, r1⟩ := Blk.pair r8
    obtain ⟨rf0, rf1, rf2, rf3⟩ := Blk.frees r8
    have rl := Blk.lt r8
    clear r8
    go_wp2_with fail
    refine (V2.out _).mono ?_; rintro e w9 ⟨rfl, b9⟩
    clear rl
    have Q9 := (QH.out.other2 (k := gr) (by omega) (.int .u64 s2.1) (.int .u64 s2.2)).after b9
    have x9 := Blk.after (Blk.other2 (k := gr) xH.out (by omega) (.int .u64 s2.1) (.int .u64 s2.2)) b9
    have y9 := Blk.after (Blk.other2 (k := gr) yH.out (by omega) (.int .u64 s2.1) (.int .u64 s2.2)) b9
    clear QH xH yH b9 p0 p1 p2 p3 q0 q1 q2 q3 c0 c1 c2 c3 d0 d1 d2 d3 f0 f1 f2 f3 h0 h1 h2 h3 la lb lc ld x0 x1 x2 x3 xf0 xf1 xf2 xf3 xl y0 y1 y2 y3 yf0 yf1 yf2 yf3 yl
    obtain ⟨p0, p1, p2, p3⟩ := Q9.1.2.1.cells
    obtain ⟨q0, q1, q2, q3⟩ := Q9.1.2.2.cells
    obtain ⟨c0, c1, c2, c3⟩ := Q9.2.1.cells
    obtain ⟨d0, d1, d2, d3⟩ := Q9.2.2.cells
    obtain ⟨f0, f1, f2, f3⟩ := Q9.2.1.free
    obtain ⟨h0, h1, h2, h3⟩ := Q9.2.2.free
    have la := Q9.1.2.1.lt
    have lb := Q9.1.2.2.lt
    have lc := Q9.2.1.lt
    have ld := Q9.2.2.lt
    obtain ⟨x0, x1, x2, x3⟩ := Blk.four x9
    obtain ⟨xf0, xf1, xf2, xf3⟩ := Blk.frees x9
    have xl := Blk.lt x9
    obtain ⟨y0, y1, y2, y3⟩ := Blk.four y9
    obtain ⟨yf0, yf1, yf2, yf3⟩ := Blk.frees y9
    have yl := Blk.lt y9
    have QH := Lib.hid Q9
    have xH := Lib.hid x9
    have yH := Lib.hid y9
    clear Q9 x9 y9
    clear V2 r0 r1 rf0 rf1 rf2 rf3
    have Q10 := QH.out.other4 (k := g + 1) (by omega) (uV y.1.1) (uV y.1.2) (.int .u64 y.2.1) (.int .u64 y.2.2)
    have x10 := Blk.other4 (k := g + 1) xH.out (by omega) (uV y.1.1) (uV y.1.2) (.int .u64 y.2.1) (.int .u64 y.2.2)
    have y10 := Blk.set4 yH.out (uV y.1.1) (uV y.1.2) (.int .u64 y.2.1) (.int .u64 y.2.2)
    clear QH xH yH
    go_wp2_with fail
    clear p0 p1 p2 p3 q0 q1 q2 q3 c0 c1 c2 c3 d0 d1 d2 d3 f0 f1 f2 f3 h0 h1 h2 h3 la lb lc ld x0 x1 x2 x3 xf0 xf1 xf2 xf3 xl y0 y1 y2 y3 yf0 yf1 yf2 yf3 yl
    generalize (World.setCell (World.setCell (World.setCell (World.setCell w9 ⟨g + 1, 0, none⟩ (uV y.1.1)) ⟨g + 1, 1, none⟩ (uV y.1.2)) ⟨g + 1, 2, none⟩ (.int .u64 y.2.1)) ⟨g + 1, 3, none⟩ (.int .u64 y.2.2)) = uf at *
    obtain ⟨p0, p1, p2, p3⟩ := Q10.1.2.1.cells
    obtain ⟨q0, q1, q2, q3⟩ := Q10.1.2.2.cells
    obtain ⟨c0, c1, c2, c3⟩ := Q10.2.1.cells
    obtain ⟨d0, d1, d2, d3⟩ := Q10.2.2.cells
    obtain ⟨f0, f1, f2, f3⟩ := Q10.2.1.free
    obtain ⟨h0, h1, h2, h3⟩ := Q10.2.2.free
    have la := Q10.1.2.1.lt
    have lb := Q10.1.2.2.lt
    have lc := Q10.2.1.lt
    have ld := Q10.2.2.lt
    obtain ⟨x0, x1, x2, x3⟩ := Blk.four x10
    obtain ⟨xf0, xf1, xf2, xf3⟩ := Blk.frees x10
    have xl := Blk.lt x10
    obtain ⟨y0, y1, y2, y3⟩ := Blk.four y10
    obtain ⟨yf0, yf1, yf2, yf3⟩ := Blk.frees y10
    have yl := Blk.lt y10
    have XE := Lib.hid (((Q10.xs x).ys y).after (Below.drew (Below.refl _ _)))
    clear Q10 x10 y10
    go_region
    go_wp2_with fail
    exact bodyPost_ret (v := fTV x y true) (by simp [results, Try.results34, go_sem, c0, c1, c2, c3, d0, d1, d2, d3]) rfl ⟨rfl, XE.out.1.1⟩

set_option maxRecDepth 100000 in
set_option maxHeartbeats 8000000 in
theorem rf_if_b_ttn (op : Int) (ho : (op == 16) = false) (kx ky : Bool) (hk : (kx && ky) = false) (a b : Fc) (w : World)
    (R1 : Hid (∀ w, Calls Try.prog 18 #[fV a] w (Gives (.bool true) w)))
    (R2 : Hid (∀ w, Calls Try.prog 18 #[fV b] w (Gives (.bool true) w)))
    (p : BitVec 64) (K1 : Hid (∀ w, Calls Try.prog 15 #[fV a] w (Gives (.tuple #[uV p, .bool kx]) w)))
    (q : BitVec 64) (K2 : Hid (∀ w, Calls Try.prog 15 #[fV b] w (Gives (.tuple #[uV q, .bool ky]) w)))
    (s1 : Sp) (k1 : Bool) (I1 : Hid (∀ w, Calls Try.prog 70 #[.int .u8 op, sV a.2, sV b.2] w (Gives (sBV s1 k1) w)))
    (x : Fc) (V1 : Hid (∀ w, Calls Try.prog 71 #[fV a, sV s1, .bool k1] w (Gives (fBV x true) w)))
    (tn : Int) (T : Hid (∀ w, Calls Try.prog 72 #[.int .u8 op] w (Gives (.tuple #[.int .u8 tn, .bool true]) w)))
    (s2 : Sp) (k2 : Bool) (I2 : Hid (∀ w, Calls Try.prog 70 #[.int .u8 tn, sV b.2, sV a.2] w (Gives (sBV s2 k2) w)))
    (y : Fc) (V2 : Hid (∀ w, Calls Try.prog 71 #[fV b, sV s2, .bool k2] w (Gives (fBV y true) w)))
    (hs : a.2.2 < 4294967296 ∧ b.2.2 < 4294967296) :
    Calls Try.prog 34 #[.int .u8 op, .bool false, fV a, fV b] w (Gives (fTV x y true) w) := by
  cases kx <;> cases ky
  case true.true => cases hk
  all_goals
    clear hk
    obtain ⟨hs1, hs2⟩ := hs
    have hx : Hid (FQ a b fZ fZ w ((((w.alloc (.cells #[uV a.1.1, uV a.1.2, .int .u64 a.2.1, .int .u64 a.2.2] 28)).alloc (.cells #[uV b.1.1, uV b.1.2, .int .u64 b.2.1, .int .u64 b.2.2] 28)).alloc (.cells #[.int .u64 0, .int .u64 0, .int .u64 0, .int .u64 0] 28)).alloc (.cells #[.int .u64 0, .int .u64 0, .int .u64 0, .int .u64 0] 28))) := Lib.hid (FQ.new a b fZ fZ w)
    go_enter Try.func34, Try.ntmps34
    go_wp2_with fail
    refine (R1.out _).mono ?_; rintro e w1 ⟨rfl, b1⟩
    have Q1 := hx.out.after b1
    clear hx b1 R1 
    obtain ⟨p0, p1, p2, p3⟩ := Q1.1.2.1.cells
    obtain ⟨q0, q1, q2, q3⟩ := Q1.1.2.2.cells
    obtain ⟨c0, c1, c2, c3⟩ := Q1.2.1.cells
    obtain ⟨d0, d1, d2, d3⟩ := Q1.2.2.cells
    obtain ⟨f0, f1, f2, f3⟩ := Q1.2.1.free
    obtain ⟨h0, h1, h2, h3⟩ := Q1.2.2.free
    have la := Q1.1.2.1.lt
    have lb := Q1.1.2.2.lt
    have lc := Q1.2.1.lt
    have ld := Q1.2.2.lt
    have QH1 := Lib.hid Q1
    clear Q1
    go_wp2_with fail
    refine (R2.out _).mono ?_; rintro e w2 ⟨rfl, b2⟩
    have Q2 := QH1.out.after b2
    clear QH1 b2 R2 p0 p1 p2 p3 q0 q1 q2 q3 c0 c1 c2 c3 d0 d1 d2 d3 f0 f1 f2 f3 h0 h1 h2 h3 la lb lc ld
    obtain ⟨p0, p1, p2, p3⟩ := Q2.1.2.1.cells
    obtain ⟨q0, q1, q2, q3⟩ := Q2.1.2.2.cells
    obtain ⟨c0, c1, c2, c3⟩ := Q2.2.1.cells
    obtain ⟨d0, d1, d2, d3⟩ := Q2.2.2.cells
    obtain ⟨f0, f1, f2, f3⟩ := Q2.2.1.free
    obtain ⟨h0, h1, h2, h3⟩ := Q2.2.2.free
    have la := Q2.1.2.1.lt
    have lb := Q2.1.2.2.lt
    have lc := Q2.2.1.lt
    have ld := Q2.2.2.lt
    have QH2 := Lib.hid Q2
    clear Q2
    go_wp2_with fail
    refine (K1.out _).mono ?_; rintro e w3 ⟨rfl, b3⟩
    have Q3 := QH2.out.after b3
    clear QH2 b3 K1 p0 p1 p2 p3 q0 q1 q2 q3 c0 c1 c2 c3 d0 d1 d2 d3 f0 f1 f2 f3 h0 h1 h2 h3 la lb lc ld
    obtain ⟨p0, p1, p2, p3⟩ := Q3.1.2.1.cells
    obtain ⟨q0, q1, q2, q3⟩ := Q3.1.2.2.cells
    obtain ⟨c0, c1, c2, c3⟩ := Q3.2.1.cells
    obtain ⟨d0, d1, d2, d3⟩ := Q3.2.2.cells
    obtain ⟨f0, f1, f2, f3⟩ := Q3.2.1.free
    obtain ⟨h0, h1, h2, h3⟩ := Q3.2.2.free
    have la := Q3.1.2.1.lt
    have lb := Q3.1.2.2.lt
    have lc := Q3.2.1.lt
    have ld := Q3.2.2.lt
    have QH3 := Lib.hid Q3
    clear Q3
    go_wp2_with fail
    refine (K2.out _).mono ?_; rintro e w4 ⟨rfl, b4⟩
    have Q4 := QH3.out.after b4
    clear QH3 b4 K2 p0 p1 p2 p3 q0 q1 q2 q3 c0 c1 c2 c3 d0 d1 d2 d3 f0 f1 f2 f3 h0 h1 h2 h3 la lb lc ld
    obtain ⟨p0, p1, p2, p3⟩ := Q4.1.2.1.cells
    obtain ⟨q0, q1, q2, q3⟩ := Q4.1.2.2.cells
    obtain ⟨c0, c1, c2, c3⟩ := Q4.2.1.cells
    obtain ⟨d0, d1, d2, d3⟩ := Q4.2.2.cells
    obtain ⟨f0, f1, f2, f3⟩ := Q4.2.1.free
    obtain ⟨h0, h1, h2, h3⟩ := Q4.2.2.free
    have la := Q4.1.2.1.lt
    have lb := Q4.1.2.2.lt
    have lc := Q4.2.1.lt
    have ld := Q4.2.2.lt
    have QH4 := Lib.hid Q4
    clear Q4
    go_wp2_with fail
    refine (I1.out _).mono ?_; rintro e w5 ⟨rfl, b5⟩
    have Q5 := ((QH4.out.alloc (.cells #[uV a.1.1, uV a.1.2, .int .u64 a.2.1, .int .u64 a.2.2] 28)).alloc (.cells #[uV b.1.1, uV b.1.2, .int .u64 b.2.1, .int .u64 b.2.2] 28)).after b5
    have x5 : Blk w4.heap.size #[uV a.1.1, uV a.1.2, .int .u64 a.2.1, .int .u64 a.2.2] 28 w5 := ((Blk.new w4 _ _ rfl).allocd (.cells #[uV b.1.1, uV b.1.2, .int .u64 b.2.1, .int .u64 b.2.2] 28)).after b5
    have y5 : Blk (w4.heap.size + 1) #[uV b.1.1, uV b.1.2, .int .u64 b.2.1, .int .u64 b.2.2] 28 w5 := Blk.after (Blk.new (w4.alloc (.cells #[uV a.1.1, uV a.1.2, .int .u64 a.2.1, .int .u64 a.2.2] 28)) _ _ (by simp)) b5
    have kg : w.heap.size + 1 + 1 + 1 < w4.heap.size := ld
    clear QH4 b5 p0 p1 p2 p3 q0 q1 q2 q3 c0 c1 c2 c3 d0 d1 d2 d3 f0 f1 f2 f3 h0 h1 h2 h3 la lb lc ld
    generalize w4.heap.size = g at *
    obtain ⟨p0, p1, p2, p3⟩ := Q5.1.2.1.cells
    obtain ⟨q0, q1, q2, q3⟩ := Q5.1.2.2.cells
    obtain ⟨c0, c1, c2, c3⟩ := Q5.2.1.cells
    obtain ⟨d0, d1, d2, d3⟩ := Q5.2.2.cells
    obtain ⟨f0, f1, f2, f3⟩ := Q5.2.1.free
    obtain ⟨h0, h1, h2, h3⟩ := Q5.2.2.free
    have la := Q5.1.2.1.lt
    have lb := Q5.1.2.2.lt
    have lc := Q5.2.1.lt
    have ld := Q5.2.2.lt
    obtain ⟨x0, x1, x2, x3⟩ := Blk.four x5
    obtain ⟨xf0, xf1, xf2, xf3⟩ := Blk.frees x5
    have xl := Blk.lt x5
    obtain ⟨y0, y1, y2, y3⟩ := Blk.four y5
    obtain ⟨yf0, yf1, yf2, yf3⟩ := Blk.frees y5
    have yl := Blk.lt y5
    clear I1
    have QH := Lib.hid Q5
    have xH := Lib.hid x5
    have yH := Lib.hid y5
    clear Q5 x5 y5
    go_wp2_with fail
    refine (V1.out _).mono ?_; rintro e w6 ⟨rfl, b6⟩
    have Q6 := (QH.out.alloc (.cells #[.int .u64 s1.1, .int .u64 s1.2] 26)).after b6
    have x6 := Blk.after (xH.out.allocd (.cells #[.int .u64 s1.1, .int .u64 s1.2] 26)) b6
    have y6 := Blk.after (yH.out.allocd (.cells #[.int .u64 s1.1, .int .u64 s1.2] 26)) b6
    clear QH xH yH b6 p0 p1 p2 p3 q0 q1 q2 q3 c0 c1 c2 c3 d0 d1 d2 d3 f0 f1 f2 f3 h0 h1 h2 h3 la lb lc ld x0 x1 x2 x3 xf0 xf1 xf2 xf3 xl y0 y1 y2 y3 yf0 yf1 yf2 yf3 yl
    obtain ⟨p0, p1, p2, p3⟩ := Q6.1.2.1.cells
    obtain ⟨q0, q1, q2, q3⟩ := Q6.1.2.2.cells
    obtain ⟨c0, c1, c2, c3⟩ := Q6.2.1.cells
    obtain ⟨d0, d1, d2, d3⟩ := Q6.2.2.cells
    obtain ⟨f0, f1, f2, f3⟩ := Q6.2.1.free
    obtain ⟨h0, h1, h2, h3⟩ := Q6.2.2.free
    have la := Q6.1.2.1.lt
    have lb := Q6.1.2.2.lt
    have lc := Q6.2.1.lt
    have ld := Q6.2.2.lt
    obtain ⟨x0, x1, x2, x3⟩ := Blk.four x6
    obtain ⟨xf0, xf1, xf2, xf3⟩ := Blk.frees x6
    have xl := Blk.lt x6
    obtain ⟨y0, y1, y2, y3⟩ := Blk.four y6
    obtain ⟨yf0, yf1, yf2, yf3⟩ := Blk.frees y6
    have yl := Blk.lt y6
    have QH := Lib.hid Q6
    have xH := Lib.hid x6
    have yH := Lib.hid y6
    clear Q6 x6 y6
    clear V1
    go_wp2_with fail
    refine (T.out _).mono ?_; rintro e w7 ⟨rfl, b7⟩
    have Q7 := (QH.out.other4 (k := g) (by omega) (uV x.1.1) (uV x.1.2) (.int .u64 x.2.1) (.int .u64 x.2.2)).after b7
    have x7 := Blk.after (Blk.set4 xH.out (uV x.1.1) (uV x.1.2) (.int .u64 x.2.1) (.int .u64 x.2.2)) b7
    have y7 := Blk.after (Blk.other4 (k := g) yH.out (by omega) (uV x.1.1) (uV x.1.2) (.int .u64 x.2.1) (.int .u64 x.2.2)) b7
    clear QH xH yH b7 p0 p1 p2 p3 q0 q1 q2 q3 c0 c1 c2 c3 d0 d1 d2 d3 f0 f1 f2 f3 h0 h1 h2 h3 la lb lc ld x0 x1 x2 x3 xf0 xf1 xf2 xf3 xl y0 y1 y2 y3 yf0 yf1 yf2 yf3 yl
    obtain ⟨p0, p1, p2, p3⟩ := Q7.1.2.1.cells
    obtain ⟨q0, q1, q2, q3⟩ := Q7.1.2.2.cells
    obtain ⟨c0, c1, c2, c3⟩ := Q7.2.1.cells
    obtain ⟨d0, d1, d2, d3⟩ := Q7.2.2.cells
    obtain ⟨f0, f1, f2, f3⟩ := Q7.2.1.free
    obtain ⟨h0, h1, h2, h3⟩ := Q7.2.2.free
    have la := Q7.1.2.1.lt
    have lb := Q7.1.2.2.lt
    have lc := Q7.2.1.lt
    have ld := Q7.2.2.lt
    obtain ⟨x0, x1, x2, x3⟩ := Blk.four x7
    obtain ⟨xf0, xf1, xf2, xf3⟩ := Blk.frees x7
    have xl := Blk.lt x7
    obtain ⟨y0, y1, y2, y3⟩ := Blk.four y7
    obtain ⟨yf0, yf1, yf2, yf3⟩ := Blk.frees y7
    have yl := Blk.lt y7
    have QH := Lib.hid Q7
    have xH := Lib.hid x7
    have yH := Lib.hid y7
    clear Q7 x7 y7
    clear T
    go_wp2_with fail
    refine (I2.out _).mono ?_; rintro e w8 ⟨rfl, b8⟩
    have r8 : Blk w7.heap.size #[.int .u64 b.2.1, .int .u64 b.2.2] 26 w8 := Blk.after (Blk.new w7 _ _ rfl) b8
    have kr : g + 1 < w7.heap.size := yl
    have Q8 := (QH.out.alloc (.cells #[.int .u64 b.2.1, .int .u64 b.2.2] 26)).after b8
    have x8 := Blk.after (xH.out.allocd (.cells #[.int .u64 b.2.1, .int .u64 b.2.2] 26)) b8
    have y8 := Blk.after (yH.out.allocd (.cells #[.int .u64 b.2.1, .int .u64 b.2.2] 26)) b8
    clear QH xH yH b8 p0 p1 p2 p3 q0 q1 q2 q3 c0 c1 c2 c3 d0 d1 d2 d3 f0 f1 f2 f3 h0 h1 h2 h3 la lb lc ld x0 x1 x2 x3 xf0 xf1 xf2 xf3 xl y0 y1 y2 y3 yf0 yf1 yf2 yf3 yl
    obtain ⟨p0, p1, p2, p3⟩ := Q8.1.2.1.cells
    obtain ⟨q0, q1, q2, q3⟩ := Q8.1.2.2.cells
    obtain ⟨c0, c1, c2, c3⟩ := Q8.2.1.cells
    obtain ⟨d0, d1, d2, d3⟩ := Q8.2.2.cells
    obtain ⟨f0, f1, f2, f3⟩ := Q8.2.1.free
    obtain ⟨h0, h1, h2, h3⟩ := Q8.2.2.free
    have la := Q8.1.2.1.lt
    have lb := Q8.1.2.2.lt
    have lc := Q8.2.1.lt
    have ld := Q8.2.2.lt
    obtain ⟨x0, x1, x2, x3⟩ := Blk.four x8
    obtain ⟨xf0, xf1, xf2, xf3⟩ := Blk.frees x8
    have xl := Blk.lt x8
    obtain ⟨y0, y1, y2, y3⟩ := Blk.four y8
    obtain ⟨yf0, yf1, yf2, yf3⟩ := Blk.frees y8
    have yl := Blk.lt y8
    have QH := Lib.hid Q8
    have xH := Lib.hid x8
    have yH := Lib.hid y8
    clear Q8 x8 y8
    clear I2
    generalize w7.heap.size = gr at *
    obtain ⟨r0, r1⟩ := Blk.pair r8
    obtain ⟨rf0, rf1, rf2, rf3⟩ := Blk.frees r8
    have rl := Blk.lt r8
    clear r8
    go_wp2_with fail
    refine (V2.out _).mono ?_; rintro e w9 ⟨rfl, b9⟩
    clear rl
    have Q9 := (QH.out.other2 (k := gr) (by omega) (.int .u64 s2.1) (.int .u64 s2.2)).after b9
    have x9 := Blk.after (Blk.other2 (k := gr) xH.out (by omega) (.int .u64 s2.1) (.int .u64 s2.2)) b9
    have y9 := Blk.after (Blk.other2 (k := gr) yH.out (by omega) (.int .u64 s2.1) (.int .u64 s2.2)) b9
    clear QH xH yH b9 p0 p1 p2 p3 q0 q1 q2 q3 c0 c1 c2 c3 d0 d1 d2 d3 f0 f1 f2 f3 h0 h1 h2 h3 la lb lc ld x0 x1 x2 x3 xf0 xf1 xf2 xf3 xl y0 y1 y2 y3 yf0 yf1 yf2 yf3 yl
    obtain ⟨p0, p1, p2, p3⟩ := Q9.1.2.1.cells
    obtain ⟨q0, q1, q2, q3⟩ := Q9.1.2.2.cells
    obtain ⟨c0, c1, c2, c3⟩ := Q9.2.1.cells
    obtain ⟨d0, d1, d2, d3⟩ := Q9.2.2.cells
    obtain ⟨f0, f1, f2, f3⟩ := Q9.2.1.free
    obtain ⟨h0, h1, h2, h3⟩ := Q9.2.2.free
    have la := Q9.1.2.1.lt
    have lb := Q9.1.2.2.lt
    have lc := Q9.2.1.lt
    have ld := Q9.2.2.lt
    obtain ⟨x0, x1, x2, x3⟩ := Blk.four x9
    obtain ⟨xf0, xf1, xf2, xf3⟩ := Blk.frees x9
    have xl := Blk.lt x9
    obtain ⟨y0, y1, y2, y3⟩ := Blk.four y9
    obtain ⟨yf0, yf1, yf2, yf3⟩ := Blk.frees y9
    have yl := Blk.lt y9
    have QH := Lib.hid Q9
    have xH := Lib.hid x9
    have yH := Lib.hid y9
    clear Q9 x9 y9
    clear V2 r0 r1 rf0 rf1 rf2 rf3
    have Q10 := QH.out.other4 (k := g + 1) (by omega) (uV y.1.1) (uV y.1.2) (.int .u64 y.2.1) (.int .u64 y.2.2)
    have x10 := Blk.other4 (k := g + 1) xH.out (by omega) (uV y.1.1) (uV y.1.2) (.int .u64 y.2.1) (.int .u64 y.2.2)
    have y10 := Blk.set4 yH.out (uV y.1.1) (uV y.1.2) (.int .u64 y.2.1) (.int .u64 y.2.2)
    clear QH xH yH
    go_wp2_with fail
    clear p0 p1 p2 p3 q0 q1 q2 q3 c0 c1 c2 c3 d0 d1 d2 d3 f0 f1 f2 f3 h0 h1 h2 h3 la lb lc ld x0 x1 x2 x3 xf0 xf1 xf2 xf3 xl y0 y1 y2 y3 yf0 yf1 yf2 yf3 yl
    generalize (World.setCell (World.setCell (World.setCell (World.setCell w9 ⟨g + 1, 0, none⟩ (uV y.1.1)) ⟨g + 1, 1, none⟩ (uV y.1.2)) ⟨g + 1, 2, none⟩ (.int .u64 y.2.1)) ⟨g + 1, 3, none⟩ (.int .u64 y.2.2)) = uf at *
    obtain ⟨p0, p1, p2, p3⟩ := Q10.1.2.1.cells
    obtain ⟨q0, q1, q2, q3⟩ := Q10.1.2.2.cells
    obtain ⟨c0, c1, c2, c3⟩ := Q10.2.1.cells
    obtain ⟨d0, d1, d2, d3⟩ := Q10.2.2.cells
    obtain ⟨f0, f1, f2, f3⟩ := Q10.2.1.free
    obtain ⟨h0, h1, h2, h3⟩ := Q10.2.2.free
    have la := Q10.1.2.1.lt
    have lb := Q10.1.2.2.lt
    have lc := Q10.2.1.lt
    have ld := Q10.2.2.lt
    obtain ⟨x0, x1, x2, x3⟩ := Blk.four x10
    obtain ⟨xf0, xf1, xf2, xf3⟩ := Blk.frees x10
    have xl := Blk.lt x10
    obtain ⟨y0, y1, y2, y3⟩ := Blk.four y10
    obtain ⟨yf0, yf1, yf2, yf3⟩ := Blk.frees y10
    have yl := Blk.lt y10
    have XE := Lib.hid (((Q10.xs x).ys y).after (Below.drew (Below.refl _ _)))
    clear Q10 x10 y10
    go_region
    go_wp2_with fail
    exact bodyPost_ret (v := fTV x y true) (by simp [results, Try.results34, go_sem, c0, c1, c2, c3, d0, d1, d2, d3]) rfl ⟨rfl, XE.out.1.1⟩

set_option maxRecDepth 100000 in
set_option maxHeartbeats 8000000 in
theorem rf_if_b_fw (op : Int) (ho : (op == 16) = false) (m2 : Bool) (kx ky : Bool) (hk : (kx && ky) = false) (a b : Fc) (w : World)
    (R1 : Hid (∀ w, Calls Try.prog 18 #[fV a] w (Gives (.bool true) w)))
    (R2 : Hid (∀ w, Calls Try.prog 18 #[fV b] w (Gives (.bool true) w)))
    (p : BitVec 64) (K1 : Hid (∀ w, Calls Try.prog 15 #[fV a] w (Gives (.tuple #[uV p, .bool kx]) w)))
    (q : BitVec 64) (K2 : Hid (∀ w, Calls Try.prog 15 #[fV b] w (Gives (.tuple #[uV q, .bool ky]) w)))
    (s1 : Sp) (k1 : Bool) (I1 : Hid (∀ w, Calls Try.prog 70 #[.int .u8 op, sV a.2, sV b.2] w (Gives (sBV s1 k1) w)))
    (x : Fc) (V1 : Hid (∀ w, Calls Try.prog 71 #[fV a, sV s1, .bool k1] w (Gives (fBV x false) w)))
    (tn : Int) (T : Hid (∀ w, Calls Try.prog 72 #[.int .u8 op] w (Gives (.tuple #[.int .u8 tn, .bool true]) w)))
    (s2 : Sp) (k2 : Bool) (I2 : Hid (∀ w, Calls Try.prog 70 #[.int .u8 tn, sV b.2, sV a.2] w (Gives (sBV s2 k2) w)))
    (y : Fc) (V2 : Hid (∀ w, Calls Try.prog 71 #[fV b, sV s2, .bool k2] w (Gives (fBV y m2) w))) :
    Calls Try.prog 34 #[.int .u8 op, .bool true, fV a, fV b] w (Gives (fTV fZ fZ false) w) := by
  cases kx <;> cases ky
  case true.true => cases hk
  all_goals
    clear hk
    have hx : Hid (FQ a b fZ fZ w ((((w.alloc (.cells #[uV a.1.1, uV a.1.2, .int .u64 a.2.1, .int .u64 a.2.2] 28)).alloc (.cells #[uV b.1.1, uV b.1.2, .int .u64 b.2.1, .int .u64 b.2.2] 28)).alloc (.cells #[.int .u64 0, .int .u64 0, .int .u64 0, .int .u64 0] 28)).alloc (.cells #[.int .u64 0, .int .u64 0, .int .u64 0, .int .u64 0] 28))) := Lib.hid (FQ.new a b fZ fZ w)
    go_enter Try.func34, Try.ntmps34
    go_wp2_with fail
    refine (R1.out _).mono ?_; rintro e w1 ⟨rfl, b1⟩
    have Q1 := hx.out.after b1
    clear hx b1 R1 
    obtain ⟨p0, p1, p2, p3⟩ := Q1.1.2.1.cells
    obtain ⟨q0, q1, q2, q3⟩ := Q1.1.2.2.cells
    obtain ⟨c0, c1, c2, c3⟩ := Q1.2.1.cells
    obtain ⟨d0, d1, d2, d3⟩ := Q1.2.2.cells
    obtain ⟨f0, f1, f2, f3⟩ := Q1.2.1.free
    obtain ⟨h0, h1, h2, h3⟩ := Q1.2.2.free
    have la := Q1.1.2.1.lt
    have lb := Q1.1.2.2.lt
    have lc := Q1.2.1.lt
    have ld := Q1.2.2.lt
    have QH1 := Lib.hid Q1
    clear Q1
    go_wp2_with fail
    refine (R2.out _).mono ?_; rintro e w2 ⟨rfl, b2⟩
    have Q2 := QH1.out.after b2
    clear QH1 b2 R2 p0 p1 p2 p3 q0 q1 q2 q3 c0 c1 c2 c3 d0 d1 d2 d3 f0 f1 f2 f3 h0 h1 h2 h3 la lb lc ld
    obtain ⟨p0, p1, p2, p3⟩ := Q2.1.2.1.cells
    obtain ⟨q0, q1, q2, q3⟩ := Q2.1.2.2.cells
    obtain ⟨c0, c1, c2, c3⟩ := Q2.2.1.cells
    obtain ⟨d0, d1, d2, d3⟩ := Q2.2.2.cells
    obtain ⟨f0, f1, f2, f3⟩ := Q2.2.1.free
    obtain ⟨h0, h1, h2, h3⟩ := Q2.2.2.free
    have la := Q2.1.2.1.lt
    have lb := Q2.1.2.2.lt
    have lc := Q2.2.1.lt
    have ld := Q2.2.2.lt
    have QH2 := Lib.hid Q2
    clear Q2
    go_wp2_with fail
    refine (K1.out _).mono ?_; rintro e w3 ⟨rfl, b3⟩
    have Q3 := QH2.out.after b3
    clear QH2 b3 K1 p0 p1 p2 p3 q0 q1 q2 q3 c0 c1 c2 c3 d0 d1 d2 d3 f0 f1 f2 f3 h0 h1 h2 h3 la lb lc ld
    obtain ⟨p0, p1, p2, p3⟩ := Q3.1.2.1.cells
    obtain ⟨q0, q1, q2, q3⟩ := Q3.1.2.2.cells
    obtain ⟨c0, c1, c2, c3⟩ := Q3.2.1.cells
    obtain ⟨d0, d1, d2, d3⟩ := Q3.2.2.cells
    obtain ⟨f0, f1, f2, f3⟩ := Q3.2.1.free
    obtain ⟨h0, h1, h2, h3⟩ := Q3.2.2.free
    have la := Q3.1.2.1.lt
    have lb := Q3.1.2.2.lt
    have lc := Q3.2.1.lt
    have ld := Q3.2.2.lt
    have QH3 := Lib.hid Q3
    clear Q3
    go_wp2_with fail
    refine (K2.out _).mono ?_; rintro e w4 ⟨rfl, b4⟩
    have Q4 := QH3.out.after b4
    clear QH3 b4 K2 p0 p1 p2 p3 q0 q1 q2 q3 c0 c1 c2 c3 d0 d1 d2 d3 f0 f1 f2 f3 h0 h1 h2 h3 la lb lc ld
    obtain ⟨p0, p1, p2, p3⟩ := Q4.1.2.1.cells
    obtain ⟨q0, q1, q2, q3⟩ := Q4.1.2.2.cells
    obtain ⟨c0, c1, c2, c3⟩ := Q4.2.1.cells
    obtain ⟨d0, d1, d2, d3⟩ := Q4.2.2.cells
    obtain ⟨f0, f1, f2, f3⟩ := Q4.2.1.free
    obtain ⟨h0, h1, h2, h3⟩ := Q4.2.2.free
    have la := Q4.1.2.1.lt
    have lb := Q4.1.2.2.lt
    have lc := Q4.2.1.lt
    have ld := Q4.2.2.lt
    have QH4 := Lib.hid Q4
    clear Q4
    go_wp2_with fail
    refine (I1.out _).mono ?_; rintro e w5 ⟨rfl, b5⟩
    have Q5 := ((QH4.out.alloc (.cells #[uV a.1.1, uV a.1.2, .int .u64 a.2.1, .int .u64 a.2.2] 28)).alloc (.cells #[uV b.1.1, uV b.1.2, .int .u64 b.2.1, .int .u64 b.2.2] 28)).after b5
    have x5 : Blk w4.heap.size #[uV a.1.1, uV a.1.2, .int .u64 a.2.1, .int .u64 a.2.2] 28 w5 := ((Blk.new w4 _ _ rfl).allocd (.cells #[uV b.1.1, uV b.1.2, .int .u64 b.2.1, .int .u64 b.2.2] 28)).after b5
    have y5 : Blk (w4.heap.size + 1) #[uV b.1.1, uV b.1.2, .int .u64 b.2.1, .int .u64 b.2.2] 28 w5 := Blk.after (Blk.new (w4.alloc (.cells #[uV a.1.1, uV a.1.2, .int .u64 a.2.1, .int .u64 a.2.2] 28)) _ _ (by simp)) b5
    have kg : w.heap.size + 1 + 1 + 1 < w4.heap.size := ld
    clear QH4 b5 p0 p1 p2 p3 q0 q1 q2 q3 c0 c1 c2 c3 d0 d1 d2 d3 f0 f1 f2 f3 h0 h1 h2 h3 la lb lc ld
    generalize w4.heap.size = g at *
    obtain ⟨p0, p1, p2, p3⟩ := Q5.1.2.1.cells
    obtain ⟨q0, q1, q2, q3⟩ := Q5.1.2.2.cells
    obtain ⟨c0, c1, c2, c3⟩ := Q5.2.1.cells
    obtain ⟨d0, d1, d2, d3⟩ := Q5.2.2.cells
    obtain ⟨f0, f1, f2, f3⟩ := Q5.2.1.free
    obtain ⟨h0, h1, h2, h3⟩ := Q5.2.2.free
    have la := Q5.1.2.1.lt
    have lb := Q5.1.2.2.lt
    have lc := Q5.2.1.lt
    have ld := Q5.2.2.lt
    obtain ⟨x0, x1, x2, x3⟩ := Blk.four x5
    obtain ⟨xf0, xf1, xf2, xf3⟩ := Blk.frees x5
    have xl := Blk.lt x5
    obtain ⟨y0, y1, y2, y3⟩ := Blk.four y5
    obtain ⟨yf0, yf1, yf2, yf3⟩ := Blk.frees y5
    have yl := Blk.lt y5
    clear I1
    have QH := Lib.hid Q5
    have xH := Lib.hid x5
    have yH := Lib.hid y5
    clear Q5 x5 y5
    go_wp2_with fail
    refine (V1.out _).mono ?_; rintro e w6 ⟨rfl, b6⟩
    have Q6 := (QH.out.alloc (.cells #[.int .u64 s1.1, .int .u64 s1.2] 26)).after b6
    have x6 := Blk.after (xH.out.allocd (.cells #[.int .u64 s1.1, .int .u64 s1.2] 26)) b6
    have y6 := Blk.after (yH.out.allocd (.cells #[.int .u64 s1.1, .int .u64 s1.2] 26)) b6
    clear QH xH yH b6 p0 p1 p2 p3 q0 q1 q2 q3 c0 c1 c2 c3 d0 d1 d2 d3 f0 f1 f2 f3 h0 h1 h2 h3 la lb lc ld x0 x1 x2 x3 xf0 xf1 xf2 xf3 xl y0 y1 y2 y3 yf0 yf1 yf2 yf3 yl
    obtain ⟨p0, p1, p2, p3⟩ := Q6.1.2.1.cells
    obtain ⟨q0, q1, q2, q3⟩ := Q6.1.2.2.cells
    obtain ⟨c0, c1, c2, c3⟩ := Q6.2.1.cells
    obtain ⟨d0, d1, d2, d3⟩ := Q6.2.2.cells
    obtain ⟨f0, f1, f2, f3⟩ := Q6.2.1.free
    obtain ⟨h0, h1, h2, h3⟩ := Q6.2.2.free
    have la := Q6.1.2.1.lt
    have lb := Q6.1.2.2.lt
    have lc := Q6.2.1.lt
    have ld := Q6.2.2.lt
    obtain ⟨x0, x1, x2, x3⟩ := Blk.four x6
    obtain ⟨xf0, xf1, xf2, xf3⟩ := Blk.frees x6
    have xl := Blk.lt x6
    obtain ⟨y0, y1, y2, y3⟩ := Blk.four y6
    obtain ⟨yf0, yf1, yf2, yf3⟩ := Blk.frees y6
    have yl := Blk.lt y6
    have QH := Lib.hid Q6
    have xH := Lib.hid x6
    have yH := Lib.hid y6
    clear Q6 x6 y6
    clear V1
    go_wp2_with fail
    refine (T.out _).mono ?_; rintro e w7 ⟨rfl, b7⟩
    have Q7 := (QH.out.other4 (k := g) (by omega) (uV x.1.1) (uV x.1.2) (.int .u64 x.2.1) (.int .u64 x.2.2)).after b7
    have x7 := Blk.after (Blk.set4 xH.out (uV x.1.1) (uV x.1.2) (.int .u64 x.2.1) (.int .u64 x.2.2)) b7
    have y7 := Blk.after (Blk.other4 (k := g) yH.out (by omega) (uV x.1.1) (uV x.1.2) (.int .u64 x.2.1) (.int .u64 x.2.2)) b7
    clear QH xH yH b7 p0 p1 p2 p3 q0 q1 q2 q3 c0 c1 c2 c3 d0 d1 d2 d3 f0 f1 f2 f3 h0 h1 h2 h3 la lb lc ld x0 x1 x2 x3 xf0 xf1 xf2 xf3 xl y0 y1 y2 y3 yf0 yf1 yf2 yf3 yl
    obtain ⟨p0, p1, p2, p3⟩ := Q7.1.2.1.cells
    obtain ⟨q0, q1, q2, q3⟩ := Q7.1.2.2.cells
    obtain ⟨c0, c1, c2, c3⟩ := Q7.2.1.cells
    obtain ⟨d0, d1, d2, d3⟩ := Q7.2.2.cells
    obtain ⟨f0, f1, f2, f3⟩ := Q7.2.1.free
    obtain ⟨h0, h1, h2, h3⟩ := Q7.2.2.free
    have la := Q7.1.2.1.lt
    have lb := Q7.1.2.2.lt
    have lc := Q7.2.1.lt
    have ld := Q7.2.2.lt
    obtain ⟨x0, x1, x2, x3⟩ := Blk.four x7
    obtain ⟨xf0, xf1, xf2, xf3⟩ := Blk.frees x7
    have xl := Blk.lt x7
    obtain ⟨y0, y1, y2, y3⟩ := Blk.four y7
    obtain ⟨yf0, yf1, yf2, yf3⟩ := Blk.frees y7
    have yl := Blk.lt y7
    have QH := Lib.hid Q7
    have xH := Lib.hid x7
    have yH := Lib.hid y7
    clear Q7 x7 y7
    clear T
    go_wp2_with fail
    refine (I2.out _).mono ?_; rintro e w8 ⟨rfl, b8⟩
    have r8 : Blk w7.heap.size #[.int .u64 b.2.1, .int .u64 b.2.2] 26 w8 := Blk.after (Blk.new w7 _ _ rfl) b8
    have kr : g + 1 < w7.heap.size := yl
    have Q8 := (QH.out.alloc (.cells #[.int .u64 b.2.1, .int .u64 b.2.2] 26)).after b8
    have x8 := Blk.after (xH.out.allocd (.cells #[.int .u64 b.2.1, .int .u64 b.2.2] 26)) b8
    have y8 := Blk.after (yH.out.allocd (.cells #[.int .u64 b.2.1, .int .u64 b.2.2] 26)) b8
    clear QH xH yH b8 p0 p1 p2 p3 q0 q1 q2 q3 c0 c1 c2 c3 d0 d1 d2 d3 f0 f1 f2 f3 h0 h1 h2 h3 la lb lc ld x0 x1 x2 x3 xf0 xf1 xf2 xf3 xl y0 y1 y2 y3 yf0 yf1 yf2 yf3 yl
    obtain ⟨p0, p1, p2, p3⟩ := Q8.1.2.1.cells
    obtain ⟨q0, q1, q2, q3⟩ := Q8.1.2.2.cells
    obtain ⟨c0, c1, c2, c3⟩ := Q8.2.1.cells
    obtain ⟨d0, d1, d2, d3⟩ := Q8.2.2.cells
    obtain ⟨f0, f1, f2, f3⟩ := Q8.2.1.free
    obtain ⟨h0, h1, h2, h3⟩ := Q8.2.2.free
    have la := Q8.1.2.1.lt
    have lb := Q8.1.2.2.lt
    have lc := Q8.2.1.lt
    have ld := Q8.2.2.lt
    obtain ⟨x0, x1, x2, x3⟩ := Blk.four x8
    obtain ⟨xf0, xf1, xf2, xf3⟩ := Blk.frees x8
    have xl := Blk.lt x8
    obtain ⟨y0, y1, y2, y3⟩ := Blk.four y8
    obtain ⟨yf0, yf1, yf2, yf3⟩ := Blk.frees y8
    have yl := Blk.lt y8
    have QH := Lib.hid Q8
    have xH := Lib.hid x8
    have yH := Lib.hid y8
    clear Q8 x8 y8
    clear I2
    generalize w7.heap.size = gr at *
    obtain ⟨r0, r1⟩ := Blk.pair r8
    obtain ⟨rf0, rf1, rf2, rf3⟩ := Blk.frees r8
    have rl := Blk.lt r8
    clear r8
    go_wp2_with fail
    refine (V2.out _).mono ?_; rintro e w9 ⟨rfl, b9⟩
    clear rl
    have Q9 := (QH.out.other2 (k := gr) (by omega) (.int .u64 s2.1) (.int .u64 s2.2)).after b9
    have x9 := Blk.after (Blk.other2 (k := gr) xH.out (by omega) (.int .u64 s2.1) (.int .u64 s2.2)) b9
    have y9 := Blk.after (Blk.other2 (k := gr) yH.out (by omega) (.int .u64 s2.1) (.int .u64 s2.2)) b9
    clear QH xH yH b9 p0 p1 p2 p3 q0 q1 q2 q3 c0 c1 c2 c3 d0 d1 d2 d3 f0 f1 f2 f3 h0 h1 h2 h3 la lb lc ld x0 x1 x2 x3 xf0 xf1 xf2 xf3 xl y0 y1 y2 y3 yf0 yf1 yf2 yf3 yl
    obtain ⟨p0, p1, p2, p3⟩ := Q9.1.2.1.cells
    obtain ⟨q0, q1, q2, q3⟩ := Q9.1.2.2.cells
    obtain ⟨c0, c1, c2, c3⟩ := Q9.2.1.cells
    obtain ⟨d0, d1, d2, d3⟩ := Q9.2.2.cells
    obtain ⟨f0, f1, f2, f3⟩ := Q9.2.1.free
    obtain ⟨h0, h1, h2, h3⟩ := Q9.2.2.free
    have la := Q9.1.2.1.lt
    have lb := Q9.1.2.2.lt
    have lc := Q9.2.1.lt
    have ld := Q9.2.2.lt
    obtain ⟨x0, x1, x2, x3⟩ := Blk.four x9
    obtain ⟨xf0, xf1, xf2, xf3⟩ := Blk.frees x9
    have xl := Blk.lt x9
    obtain ⟨y0, y1, y2, y3⟩ := Blk.four y9
    obtain ⟨yf0, yf1, yf2, yf3⟩ := Blk.frees y9
    have yl := Blk.lt y9
    have QH := Lib.hid Q9
    have xH := Lib.hid x9
    have yH := Lib.hid y9
    clear Q9 x9 y9
    clear V2 r0 r1 rf0 rf1 rf2 rf3
    have k9 := kg
    have XE : Hid (FQ a b fZ fZ w (World.setCell (World.setCell (World.setCell (World.setCell (World.setCell (World.setCell (World.setCell (World.setCell (World.setCell (World.setCell (World.setCell (World.setCell w9 ⟨g + 1, 0, none⟩ (uV y.1.1)) ⟨g + 1, 1, none⟩ (uV y.1.2)) ⟨g + 1, 2, none⟩ (.int .u64 y.2.1)) ⟨g + 1, 3, none⟩ (.int .u64 y.2.2)) ⟨w.heap.size + 1 + 1, 0, none⟩ (.int .u64 0)) ⟨w.heap.size + 1 + 1, 1, none⟩ (.int .u64 0)) ⟨w.heap.size + 1 + 1, 2, none⟩ (.int .u64 0)) ⟨w.heap.size + 1 + 1, 3, none⟩ (.int .u64 0)) ⟨w.heap.size + 1 + 1 + 1, 0, none⟩ (.int .u64 0)) ⟨w.heap.size + 1 + 1 + 1, 1, none⟩ (.int .u64 0)) ⟨w.heap.size + 1 + 1 + 1, 2, none⟩ (.int .u64 0)) ⟨w.heap.size + 1 + 1 + 1, 3, none⟩ (.int .u64 0))) := Lib.hid (((QH.out.other4 (k := g + 1) (by omega) (uV y.1.1) (uV y.1.2) (.int .u64 y.2.1) (.int .u64 y.2.2)).xs fZ).ys fZ)
    go_wp2_with fail
    clear p0 p1 p2 p3 q0 q1 q2 q3 c0 c1 c2 c3 d0 d1 d2 d3 f0 f1 f2 f3 h0 h1 h2 h3 la lb lc ld x0 x1 x2 x3 xf0 xf1 xf2 xf3 xl y0 y1 y2 y3 yf0 yf1 yf2 yf3 yl
    generalize (World.setCell (World.setCell (World.setCell (World.setCell (World.setCell (World.setCell (World.setCell (World.setCell (World.setCell (World.setCell (World.setCell (World.setCell w9 ⟨g + 1, 0, none⟩ (uV y.1.1)) ⟨g + 1, 1, none⟩ (uV y.1.2)) ⟨g + 1, 2, none⟩ (.int .u64 y.2.1)) ⟨g + 1, 3, none⟩ (.int .u64 y.2.2)) ⟨w.heap.size + 1 + 1, 0, none⟩ (.int .u64 0)) ⟨w.heap.size + 1 + 1, 1, none⟩ (.int .u64 0)) ⟨w.heap.size + 1 + 1, 2, none⟩ (.int .u64 0)) ⟨w.heap.size + 1 + 1, 3, none⟩ (.int .u64 0)) ⟨w.heap.size + 1 + 1 + 1, 0, none⟩ (.int .u64 0)) ⟨w.heap.size + 1 + 1 + 1, 1, none⟩ (.int .u64 0)) ⟨w.heap.size + 1 + 1 + 1, 2, none⟩ (.int .u64 0)) ⟨w.heap.size + 1 + 1 + 1, 3, none⟩ (.int .u64 0)) = uf at *
    obtain ⟨p0, p1, p2, p3⟩ := XE.out.1.2.1.cells
    obtain ⟨q0, q1, q2, q3⟩ := XE.out.1.2.2.cells
    obtain ⟨c0, c1, c2, c3⟩ := XE.out.2.1.cells
    obtain ⟨d0, d1, d2, d3⟩ := XE.out.2.2.cells
    obtain ⟨f0, f1, f2, f3⟩ := XE.out.2.1.free
    obtain ⟨h0, h1, h2, h3⟩ := XE.out.2.2.free
    have la := XE.out.1.2.1.lt
    have lb := XE.out.1.2.2.lt
    have lc := XE.out.2.1.lt
    have ld := XE.out.2.2.lt
    exact bodyPost_ret (v := fTV fZ fZ false) (by simp [results, Try.results34, go_sem, c0, c1, c2, c3, d0, d1, d2, d3, fZ]) rfl ⟨rfl, XE.out.1.1⟩

set_option maxRecDepth 100000 in
set_option maxHeartbeats 8000000 in
theorem rf_if_b_fn (op : Int) (ho : (op == 16) = false) (m2 : Bool) (kx ky : Bool) (hk : (kx && ky) = false) (a b : Fc) (w : World)
    (R1 : Hid (∀ w, Calls Try.prog 18 #[fV a] w (Gives (.bool true) w)))
    (R2 : Hid (∀ w, Calls Try.prog 18 #[fV b] w (Gives (.bool true) w)))
    (p : BitVec 64) (K1 : Hid (∀ w, Calls Try.prog 15 #[fV a] w (Gives (.tuple #[uV p, .bool kx]) w)))
    (q : BitVec 64) (K2 : Hid (∀ w, Calls Try.prog 15 #[fV b] w (Gives (.tuple #[uV q, .bool ky]) w)))
    (s1 : Sp) (k1 : Bool) (I1 : Hid (∀ w, Calls Try.prog 70 #[.int .u8 op, sV a.2, sV b.2] w (Gives (sBV s1 k1) w)))
    (x : Fc) (V1 : Hid (∀ w, Calls Try.prog 71 #[fV a, sV s1, .bool k1] w (Gives (fBV x false) w)))
    (tn : Int) (T : Hid (∀ w, Calls Try.prog 72 #[.int .u8 op] w (Gives (.tuple #[.int .u8 tn, .bool true]) w)))
    (s2 : Sp) (k2 : Bool) (I2 : Hid (∀ w, Calls Try.prog 70 #[.int .u8 tn, sV b.2, sV a.2] w (Gives (sBV s2 k2) w)))
    (y : Fc) (V2 : Hid (∀ w, Calls Try.prog 71 #[fV b, sV s2, .bool k2] w (Gives (fBV y m2) w)))
    (hs : a.2.2 < 4294967296 ∧ b.2.2 < 4294967296) :
    Calls Try.prog 34 #[.int .u8 op, .bool false, fV a, fV b] w (Gives (fTV fZ fZ false) w) := by
  cases kx <;> cases ky
  case true.true => cases hk
  all_goals
    clear hk
    obtain ⟨hs1, hs2⟩ := hs
    have hx : Hid (FQ a b fZ fZ w ((((w.alloc (.cells #[uV a.1.1, uV a.1.2, .int .u64 a.2.1, .int .u64 a.2.2] 28)).alloc (.cells #[uV b.1.1, uV b.1.2, .int .u64 b.2.1, .int .u64 b.2.2] 28)).alloc (.cells #[.int .u64 0, .int .u64 0, .int .u64 0, .int .u64 0] 28)).alloc (.cells #[.int .u64 0, .int .u64 0, .int .u64 0, .int .u64 0] 28))) := Lib.hid (FQ.new a b fZ fZ w)
    go_enter Try.func34, Try.ntmps34
    go_wp2_with fail
    refine (R1.out _).mono ?_; rintro e w1 ⟨rfl, b1⟩
    have Q1 := hx.out.after b1
    clear hx b1 R1 
    obtain ⟨p0, p1, p2, p3⟩ := Q1.1.2.1.cells
    obtain ⟨q0, q1, q2, q3⟩ := Q1.1.2.2.cells
    obtain ⟨c0, c1, c2, c3⟩ := Q1.2.1.cells
    obtain ⟨d0, d1, d2, d3⟩ := Q1.2.2.cells
    obtain ⟨f0, f1, f2, f3⟩ := Q1.2.1.free
    obtain ⟨h0, h1, h2, h3⟩ := Q1.2.2.free
    have la := Q1.1.2.1.lt
    have lb := Q1.1.2.2.lt
    have lc := Q1.2.1.lt
    have ld := Q1.2.2.lt
    have QH1 := Lib.hid Q1
    clear Q1
    go_wp2_with fail
    refine (R2.out _).mono ?_; rintro e w2 ⟨rfl, b2⟩
    have Q2 := QH1.out.after b2
    clear QH1 b2 R2 p0 p1 p2 p3 q0 q1 q2 q3 c0 c1 c2 c3 d0 d1 d2 d3 f0 f1 f2 f3 h0 h1 h2 h3 la lb lc ld
    obtain ⟨p0, p1, p2, p3⟩ := Q2.1.2.1.cells
    obtain ⟨q0, q1, q2, q3⟩ := Q2.1.2.2.cells
    obtain ⟨c0, c1, c2, c3⟩ := Q2.2.1.cells
    obtain ⟨d0, d1, d2, d3⟩ := Q2.2.2.cells
    obtain ⟨f0, f1, f2, f3⟩ := Q2.2.1.free
    obtain ⟨h0, h1, h2, h3⟩ := Q2.2.2.free
    have la := Q2.1.2.1.lt
    have lb := Q2.1.2.2.lt
    have lc := Q2.2.1.lt
    have ld := Q2.2.2.lt
    have QH2 := Lib.hid Q2
    clear Q2
    go_wp2_with fail
    refine (K1.out _).mono ?_; rintro e w3 ⟨rfl, b3⟩
    have Q3 := QH2.out.after b3
    clear QH2 b3 K1 p0 p1 p2 p3 q0 q1 q2 q3 c0 c1 c2 c3 d0 d1 d2 d3 f0 f1 f2 f3 h0 h1 h2 h3 la lb lc ld
    obtain ⟨p0, p1, p2, p3⟩ := Q3.1.2.1.cells
    obtain ⟨q0, q1, q2, q3⟩ := Q3.1.2.2.cells
    obtain ⟨c0, c1, c2, c3⟩ := Q3.2.1.cells
    obtain ⟨d0, d1, d2, d3⟩ := Q3.2.2.cells
    obtain ⟨f0, f1, f2, f3⟩ := Q3.2.1.free
    obtain ⟨h0, h1, h2, h3⟩ := Q3.2.2.free
    have la := Q3.1.2.1.lt
    have lb := Q3.1.2.2.lt
    have lc := Q3.2.1.lt
    have ld := Q3.2.2.lt
    have QH3 := Lib.hid Q3
    clear Q3
    go_wp2_with fail
    refine (K2.out _).mono ?_; rintro e w4 ⟨rfl, b4⟩
    have Q4 := QH3.out.after b4
    clear QH3 b4 K2 p0 p1 p2 p3 q0 q1 q2 q3 c0 c1 c2 c3 d0 d1 d2 d3 f0 f1 f2 f3 h0 h1 h2 h3 la lb lc ld
    obtain ⟨p0, p1, p2, p3⟩ := Q4.1.2.1.cells
    obtain ⟨q0, q1, q2, q3⟩ := Q4.1.2.2.cells
    obtain ⟨c0, c1, c2, c3⟩ := Q4.2.1.cells
    obtain ⟨d0, d1, d2, d3⟩ := Q4.2.2.cells
    obtain ⟨f0, f1, f2, f3⟩ := Q4.2.1.free
    obtain ⟨h0, h1, h2, h3⟩ := Q4.2.2.free
    have la := Q4.1.2.1.lt
    have lb := Q4.1.2.2.lt
    have lc := Q4.2.1.lt
    have ld := Q4.2.2.lt
    have QH4 := Lib.hid Q4
    clear Q4
    go_wp2_with fail
    refine (I1.out _).mono ?_; rintro e w5 ⟨rfl, b5⟩
    have Q5 := ((QH4.out.alloc (.cells #[uV a.1.1, uV a.1.2, .int .u64 a.2.1, .int .u64 a.2.2] 28)).alloc (.cells #[uV b.1.1, uV b.1.2, .int .u64 b.2.1, .int .u64 b.2.2] 28)).after b5
    have x5 : Blk w4.heap.size #[uV a.1.1, uV a.1.2, .int .u64 a.2.1, .int .u64 a.2.2] 28 w5 := ((Blk.new w4 _ _ rfl).allocd (.cells #[uV b.1.1, uV b.1.2, .int .u64 b.2.1, .int .u64 b.2.2] 28)).after b5
    have y5 : Blk (w4.heap.size + 1) #[uV b.1.1, uV b.1.2, .int .u64 b.2.1, .int .u64 b.2.2] 28 w5 := Blk.after (Blk.new (w4.alloc (.cells #[uV a.1.1, uV a.1.2, .int .u64 a.2.1, .int .u64 a.2.2] 28)) _ _ (by simp)) b5
    have kg : w.heap.size + 1 + 1 + 1 < w4.heap.size := ld
    clear QH4 b5 p0 p1 p2 p3 q0 q1 q2 q3 c0 c1 c2 c3 d0 d1 d2 d3 f0 f1 f2 f3 h0 h1 h2 h3 la lb lc ld
    generalize w4.heap.size = g at *
    obtain ⟨p0, p1, p2, p3⟩ := Q5.1.2.1.cells
    obtain ⟨q0, q1, q2, q3⟩ := Q5.1.2.2.cells
    obtain ⟨c0, c1, c2, c3⟩ := Q5.2.1.cells
    obtain ⟨d0, d1, d2, d3⟩ := Q5.2.2.cells
    obtain ⟨f0, f1, f2, f3⟩ := Q5.2.1.free
    obtain ⟨h0, h1, h2, h3⟩ := Q5.2.2.free
    have la := Q5.1.2.1.lt
    have lb := Q5.1.2.2.lt
    have lc := Q5.2.1.lt
    have ld := Q5.2.2.lt
    obtain ⟨x0, x1, x2, x3⟩ := Blk.four x5
    obtain ⟨xf0, xf1, xf2, xf3⟩ := Blk.frees x5
    have xl := Blk.lt x5
    obtain ⟨y0, y1, y2, y3⟩ := Blk.four y5
    obtain ⟨yf0, yf1, yf2, yf3⟩ := Blk.frees y5
    have yl := Blk.lt y5
    clear I1
    have QH := Lib.hid Q5
    have xH := Lib.hid x5
    have yH := Lib.hid y5
    clear Q5 x5 y5
    go_wp2_with fail
    refine (V1.out _).mono ?_; rintro e w6 ⟨rfl, b6⟩
    have Q6 := (QH.out.alloc (.cells #[.int .u64 s1.1, .int .u64 s1.2] 26)).after b6
    have x6 := Blk.after (xH.out.allocd (.cells #[.int .u64 s1.1, .int .u64 s1.2] 26)) b6
    have y6 := Blk.after (yH.out.allocd (.cells #[.int .u64 s1.1, .int .u64 s1.2] 26)) b6
    clear QH xH yH b6 p0 p1 p2 p3 q0 q1 q2 q3 c0 c1 c2 c3 d0 d1 d2 d3 f0 f1 f2 f3 h0 h1 h2 h3 la lb lc ld x0 x1 x2 x3 xf0 xf1 xf2 xf3 xl y0 y1 y2 y3 yf0 yf1 yf2 yf3 yl
    obtain ⟨p0, p1, p2, p3⟩ := Q6.1.2.1.cells
    obtain ⟨q0, q1, q2, q3⟩ := Q6.1.2.2.cells
    obtain ⟨c0, c1, c2, c3⟩ := Q6.2.1.cells
    obtain ⟨d0, d1, d2, d3⟩ := Q6.2.2.cells
    obtain ⟨f0, f1, f2, f3⟩ := Q6.2.1.free
    obtain ⟨h0, h1, h2, h3⟩ := Q6.2.2.free
    have la := Q6.1.2.1.lt
    have lb := Q6.1.2.2.lt
    have lc := Q6.2.1.lt
    have ld := Q6.2.2.lt
    obtain ⟨x0, x1, x2, x3⟩ := Blk.four x6
    obtain ⟨xf0, xf1, xf2, xf3⟩ := Blk.frees x6
    have xl := Blk.lt x6
    obtain ⟨y0, y1, y2, y3⟩ := Blk.four y6
    obtain ⟨yf0, yf1, yf2, yf3⟩ := Blk.frees y6
    have yl := Blk.lt y6
    have QH := Lib.hid Q6
    have xH := Lib.hid x6
    have yH := Lib.hid y6
    clear Q6 x6 y6
    clear V1
    go_wp2_with fail
    refine (T.out _).mono ?_; rintro e w7 ⟨rfl, b7⟩
    have Q7 := (QH.out.other4 (k := g) (by omega) (uV x.1.1) (uV x.1.2) (.int .u64 x.2.1) (.int .u64 x.2.2)).after b7
    have x7 := Blk.after (Blk.set4 xH.out (uV x.1.1) (uV x.1.2) (.int .u64 x.2.1) (.int .u64 x.2.2)) b7
    have y7 := Blk.after (Blk.other4 (k := g) yH.out (by omega) (uV x.1.1) (uV x.1.2) (.int .u64 x.2.1) (.int .u64 x.2.2)) b7
    clear QH xH yH b7 p0 p1 p2 p3 q0 q1 q2 q3 c0 c1 c2 c3 d0 d1 d2 d3 f0 f1 f2 f3 h0 h1 h2 h3 la lb lc ld x0 x1 x2 x3 xf0 xf1 xf2 xf3 xl y0 y1 y2 y3 yf0 yf1 yf2 yf3 yl
    obtain ⟨p0, p1, p2, p3⟩ := Q7.1.2.1.cells
    obtain ⟨q0, q1, q2, q3⟩ := Q7.1.2.2.cells
    obtain ⟨c0, c1, c2, c3⟩ := Q7.2.1.cells
    obtain ⟨d0, d1, d2, d3⟩ := Q7.2.2.cells
    obtain ⟨f0, f1, f2, f3⟩ := Q7.2.1.free
    obtain ⟨h0, h1, h2, h3⟩ := Q7.2.2.free
    have la := Q7.1.2.1.lt
    have lb := Q7.1.2.2.lt
    have lc := Q7.2.1.lt
    have ld := Q7.2.2.lt
    obtain ⟨x0, x1, x2, x3⟩ := Blk.four x7
    obtain ⟨xf0, xf1, xf2, xf3⟩ := Blk.frees x7
    have xl := Blk.lt x7
    obtain ⟨y0, y1, y2, y3⟩ := Blk.four y7
    obtain ⟨yf0, yf1, yf2, yf3⟩ := Blk.frees y7
    have yl := Blk.lt y7
    have QH := Lib.hid Q7
    have xH := Lib.hid x7
    have yH := Lib.hid y7
    clear Q7 x7 y7
    clear T
    go_wp2_with fail
    refine (I2.out _).mono ?_; rintro e w8 ⟨rfl, b8⟩
    have r8 : Blk w7.heap.size #[.int .u64 b.2.1, .int .u64 b.2.2] 26 w8 := Blk.after (Blk.new w7 _ _ rfl) b8
    have kr : g + 1 < w7.heap.size := yl
    have Q8 := (QH.out.alloc (.cells #[.int .u64 b.2.1, .int .u64 b.2.2] 26)).after b8
    have x8 := Blk.after (xH.out.allocd (.cells #[.int .u64 b.2.1, .int .u64 b.2.2] 26)) b8
    have y8 := Blk.after (yH.out.allocd (.cells #[.int .u64 b.2.1, .int .u64 b.2.2] 26)) b8
    clear QH xH yH b8 p0 p1 p2 p3 q0 q1 q2 q3 c0 c1 c2 c3 d0 d1 d2 d3 f0 f1 f2 f3 h0 h1 h2 h3 la lb lc ld x0 x1 x2 x3 xf0 xf1 xf2 xf3 xl y0 y1 y2 y3 yf0 yf1 yf2 yf3 yl
    obtain ⟨p0, p1, p2, p3⟩ := Q8.1.2.1.cells
    obtain ⟨q0, q1, q2, q3⟩ := Q8.1.2.2.cells
    obtain ⟨c0, c1, c2, c3⟩ := Q8.2.1.cells
    obtain ⟨d0, d1, d2, d3⟩ := Q8.2.2.cells
    obtain ⟨f0, f1, f2, f3⟩ := Q8.2.1.free
    obtain ⟨h0, h1, h2, h3⟩ := Q8.2.2.free
    have la := Q8.1.2.1.lt
    have lb := Q8.1.2.2.lt
    have lc := Q8.2.1.lt
    have ld := Q8.2.2.lt
    obtain ⟨x0, x1, x2, x3⟩ := Blk.four x8
    obtain ⟨xf0, xf1, xf2, xf3⟩ := Blk.frees x8
    have xl := Blk.lt x8
    obtain ⟨y0, y1, y2, y3⟩ := Blk.four y8
    obtain ⟨yf0, yf1, yf2, yf3⟩ := Blk.frees y8
    have yl := Blk.lt y8
    have QH := Lib.hid Q8
    have xH := Lib.hid x8
    have yH := Lib.hid y8
    clear Q8 x8 y8
    clear I2
    generalize w7.heap.size = gr at *
    obtain ⟨r0, r1⟩ := Blk.pair r8
    obtain ⟨rf0, rf1, rf2, rf3⟩ := Blk.frees r8
    have rl := Blk.lt r8
    clear r8
    go_wp2_with fail
    refine (V2.out _).mono ?_; rintro e w9 ⟨rfl, b9⟩
    clear rl
    have Q9 := (QH.out.other2 (k := gr) (by omega) (.int .u64 s2.1) (.int .u64 s2.2)).after b9
    have x9 := Blk.after (Blk.other2 (k := gr) xH.out (by omega) (.int .u64 s2.1) (.int .u64 s2.2)) b9
    have y9 := Blk.after (Blk.other2 (k := gr) yH.out (by omega) (.int .u64 s2.1) (.int .u64 s2.2)) b9
    clear QH xH yH b9 p0 p1 p2 p3 q0 q1 q2 q3 c0 c1 c2 c3 d0 d1 d2 d3 f0 f1 f2 f3 h0 h1 h2 h3 la lb lc ld x0 x1 x2 x3 xf0 xf1 xf2 xf3 xl y0 y1 y2 y3 yf0 yf1 yf2 yf3 yl
    obtain ⟨p0, p1, p2, p3⟩ := Q9.1.2.1.cells
    obtain ⟨q0, q1, q2, q3⟩ := Q9.1.2.2.cells
    obtain ⟨c0, c1, c2, c3⟩ := Q9.2.1.cells
    obtain ⟨d0, d1, d2, d3⟩ := Q9.2.2.cells
    obtain ⟨f0, f1, f2, f3⟩ := Q9.2.1.free
    obtain ⟨h0, h1, h2, h3⟩ := Q9.2.2.free
    have la := Q9.1.2.1.lt
    have lb := Q9.1.2.2.lt
    have lc := Q9.2.1.lt
    have ld := Q9.2.2.lt
    obtain ⟨x0, x1, x2, x3⟩ := Blk.four x9
    obtain ⟨xf0, xf1, xf2, xf3⟩ := Blk.frees x9
    have xl := Blk.lt x9
    obtain ⟨y0, y1, y2, y3⟩ := Blk.four y9
    obtain ⟨yf0, yf1, yf2, yf3⟩ := Blk.frees y9
    have yl := Blk.lt y9
    have QH := Lib.hid Q9
    have xH := Lib.hid x9
    have yH := Lib.hid y9
    clear Q9 x9 y9
    clear V2 r0 r1 rf0 rf1 rf2 rf3
    have k9 := kg
    have XE : Hid (FQ a b fZ fZ w (World.setCell (World.setCell (World.setCell (World.setCell (World.setCell (World.setCell (World.setCell (World.setCell (World.setCell (World.setCell (World.setCell (World.setCell w9 ⟨g + 1, 0, none⟩ (uV y.1.1)) ⟨g + 1, 1, none⟩ (uV y.1.2)) ⟨g + 1, 2, none⟩ (.int .u64 y.2.1)) ⟨g + 1, 3, none⟩ (.int .u64 y.2.2)) ⟨w.heap.size + 1 + 1, 0, none⟩ (.int .u64 0)) ⟨w.heap.size + 1 + 1, 1, none⟩ (.int .u64 0)) ⟨w.heap.size + 1 + 1, 2, none⟩ (.int .u64 0)) ⟨w.heap.size + 1 + 1, 3, none⟩ (.int .u64 0)) ⟨w.heap.size + 1 + 1 + 1, 0, none⟩ (.int .u64 0)) ⟨w.heap.size + 1 + 1 + 1, 1, none⟩ (.int .u64 0)) ⟨w.heap.size + 1 + 1 + 1, 2, none⟩ (.int .u64 0)) ⟨w.heap.size + 1 + 1 + 1, 3, none⟩ (.int .u64 0))) := Lib.hid (((QH.out.other4 (k := g + 1) (by omega) (uV y.1.1) (uV y.1.2) (.int .u64 y.2.1) (.int .u64 y.2.2)).xs fZ).ys fZ)
    go_wp2_with fail
    clear p0 p1 p2 p3 q0 q1 q2 q3 c0 c1 c2 c3 d0 d1 d2 d3 f0 f1 f2 f3 h0 h1 h2 h3 la lb lc ld x0 x1 x2 x3 xf0 xf1 xf2 xf3 xl y0 y1 y2 y3 yf0 yf1 yf2 yf3 yl
    generalize (World.setCell (World.setCell (World.setCell (World.setCell (World.setCell (World.setCell (World.setCell (World.setCell (World.setCell (World.setCell (World.setCell (World.setCell w9 ⟨g + 1, 0, none⟩ (uV y.1.1)) ⟨g + 1, 1, none⟩ (uV y.1.2)) ⟨g + 1, 2, none⟩ (.int .u64 y.2.1)) ⟨g + 1, 3, none⟩ (.int .u64 y.2.2)) ⟨w.heap.size + 1 + 1, 0, none⟩ (.int .u64 0)) ⟨w.heap.size + 1 + 1, 1, none⟩ (.int .u64 0)) ⟨w.heap.size + 1 + 1, 2, none⟩ (.int .u64 0)) ⟨w.heap.size + 1 + 1, 3, none⟩ (.int .u64 0)) ⟨w.heap.size + 1 + 1 + 1, 0, none⟩ (.int .u64 0)) ⟨w.heap.size + 1 + 1 + 1, 1, none⟩ (.int .u64 0)) ⟨w.heap.size + 1 + 1 + 1, 2, none⟩ (.int .u64 0)) ⟨w.heap.size + 1 + 1 + 1, 3, none⟩ (.int .u64 0)) = uf at *
    obtain ⟨p0, p1, p2, p3⟩ := XE.out.1.2.1.cells
    obtain ⟨q0, q1, q2, q3⟩ := XE.out.1.2.2.cells
    obtain ⟨c0, c1, c2, c3⟩ := XE.out.2.1.cells
    obtain ⟨d0, d1, d2, d3⟩ := XE.out.2.2.cells
    obtain ⟨f0, f1, f2, f3⟩ := XE.out.2.1.free
    obtain ⟨h0, h1, h2, h3⟩ := XE.out.2.2.free
    have la := XE.out.1.2.1.lt
    have lb := XE.out.1.2.2.lt
    have lc := XE.out.2.1.lt
    have ld := XE.out.2.2.lt
    exact bodyPost_ret (v := fTV fZ fZ false) (by simp [results, Try.results34, go_sem, c0, c1, c2, c3, d0, d1, d2, d3, fZ]) rfl ⟨rfl, XE.out.1.1⟩

set_option maxRecDepth 100000 in
set_option maxHeartbeats 8000000 in
theorem rf_if_b_tfw (op : Int) (ho : (op == 16) = false) (kx ky : Bool) (hk : (kx && ky) = false) (a b : Fc) (w : World)
    (R1 : Hid (∀ w, Calls Try.prog 18 #[fV a] w (Gives (.bool true) w)))
    (R2 : Hid (∀ w, Calls Try.prog 18 #[fV b] w (Gives (.bool true) w)))
    (p : BitVec 64) (K1 : Hid (∀ w, Calls Try.prog 15 #[fV a] w (Gives (.tuple #[uV p, .bool kx]) w)))
    (q : BitVec 64) (K2 : Hid (∀ w, Calls Try.prog 15 #[fV b] w (Gives (.tuple #[uV q, .bool ky]) w)))
    (s1 : Sp) (k1 : Bool) (I1 : Hid (∀ w, Calls Try.prog 70 #[.int .u8 op, sV a.2, sV b.2] w (Gives (sBV s1 k1) w)))
    (x : Fc) (V1 : Hid (∀ w, Calls Try.prog 71 #[fV a, sV s1, .bool k1] w (Gives (fBV x true) w)))
    (tn : Int) (T : Hid (∀ w, Calls Try.prog 72 #[.int .u8 op] w (Gives (.tuple #[.int .u8 tn, .bool true]) w)))
    (s2 : Sp) (k2 : Bool) (I2 : Hid (∀ w, Calls Try.prog 70 #[.int .u8 tn, sV b.2, sV a.2] w (Gives (sBV s2 k2) w)))
    (y : Fc) (V2 : Hid (∀ w, Calls Try.prog 71 #[fV b, sV s2, .bool k2] w (Gives (fBV y false) w))) :
    Calls Try.prog 34 #[.int .u8 op, .bool true, fV a, fV b] w (Gives (fTV fZ fZ false) w) := by
  cases kx <;> cases ky
  case true.true => cases hk
  all_goals
    clear hk
    have hx : Hid (FQ a b fZ fZ w ((((w.alloc (.cells #[uV a.1.1, uV a.1.2, .int .u64 a.2.1, .int .u64 a.2.2] 28)).alloc (.cells #[uV b.1.1, uV b.1.2, .int .u64 b.2.1, .int .u64 b.2.2] 28)).alloc (.cells #[.int .u64 0, .int .u64 0, .int .u64 0, .int .u64 0] 28)).alloc (.cells #[.int .u64 0, .int .u64 0, .int .u64 0, .int .u64 0] 28))) := Lib.hid (FQ.new a b fZ fZ w)
    go_enter Try.func34, Try.ntmps34
    go_wp2_with fail
    refine (R1.out _).mono ?_; rintro e w1 ⟨rfl, b1⟩
    have Q1 := hx.out.after b1
    clear hx b1 R1 
    obtain ⟨p0, p1, p2, p3⟩ := Q1.1.2.1.cells
    obtain ⟨q0, q1, q2, q3⟩ := Q1.1.2.2.cells
    obtain ⟨c0, c1, c2, c3⟩ := Q1.2.1.cells
    obtain ⟨d0, d1, d2, d3⟩ := Q1.2.2.cells
    obtain ⟨f0, f1, f2, f3⟩ := Q1.2.1.free
    obtain ⟨h0, h1, h2, h3⟩ := Q1.2.2.free
    have la := Q1.1.2.1.lt
    have lb := Q1.1.2.2.lt
    have lc := Q1.2.1.lt
    have ld := Q1.2.2.lt
    have QH1 := Lib.hid Q1
    clear Q1
    go_wp2_with fail
    refine (R2.out _).mono ?_; rintro e w2 ⟨rfl, b2⟩
    have Q2 := QH1.out.after b2
    clear QH1 b2 R2 p0 p1 p2 p3 q0 q1 q2 q3 c0 c1 c2 c3 d0 d1 d2 d3 f0 f1 f2 f3 h0 h1 h2 h3 la lb lc ld
    obtain ⟨p0, p1, p2, p3⟩ := Q2.1.2.1.cells
    obtain ⟨q0, q1, q2, q3⟩ := Q2.1.2.2.cells
    obtain ⟨c0, c1, c2, c3⟩ := Q2.2.1.cells
    obtain ⟨d0, d1, d2, d3⟩ := Q2.2.2.cells
    obtain ⟨f0, f1, f2, f3⟩ := Q2.2.1.free
    obtain ⟨h0, h1, h2, h3⟩ := Q2.2.2.free
    have la := Q2.1.2.1.lt
    have lb := Q2.1.2.2.lt
    have lc := Q2.2.1.lt
    have ld := Q2.2.2.lt
    have QH2 := Lib.hid Q2
    clear Q2
    go_wp2_with fail
    refine (K1.out _).mono ?_; rintro e w3 ⟨rfl, b3⟩
    have Q3 := QH2.out.after b3
    clear QH2 b3 K1 p0 p1 p2 p3 q0 q1 q2 q3 c0 c1 c2 c3 d0 d1 d2 d3 f0 f1 f2 f3 h0 h1 h2 h3 la lb lc ld
    obtain ⟨p0, p1, p2, p3⟩ := Q3.1.2.1.cells
    obtain ⟨q0, q1, q2, q3⟩ := Q3.1.2.2.cells
    obtain ⟨c0, c1, c2, c3⟩ := Q3.2.1.cells
    obtain ⟨d0, d1, d2, d3⟩ := Q3.2.2.cells
    obtain ⟨f0, f1, f2, f3⟩ := Q3.2.1.free
    obtain ⟨h0, h1, h2, h3⟩ := Q3.2.2.free
    have la := Q3.1.2.1.lt
    have lb := Q3.1.2.2.lt
    have lc := Q3.2.1.lt
    have ld := Q3.2.2.lt
    have QH3 := Lib.hid Q3
    clear Q3
    go_wp2_with fail
    refine (K2.out _).mono ?_; rintro e w4 ⟨rfl, b4⟩
    have Q4 := QH3.out.after b4
    clear QH3 b4 K2 p0 p1 p2 p3 q0 q1 q2 q3 c0 c1 c2 c3 d0 d1 d2 d3 f0 f1 f2 f3 h0 h1 h2 h3 la lb lc ld
    obtain ⟨p0, p1, p2, p3⟩ := Q4.1.2.1.cells
    obtain ⟨q0, q1, q2, q3⟩ := Q4.1.2.2.cells
    obtain ⟨c0, c1, c2, c3⟩ := Q4.2.1.cells
    obtain ⟨d0, d1, d2, d3⟩ := Q4.2.2.cells
    obtain ⟨f0, f1, f2, f3⟩ := Q4.2.1.free
    obtain ⟨h0, h1, h2, h3⟩ := Q4.2.2.free
    have la := Q4.1.2.1.lt
    have lb := Q4.1.2.2.lt
    have lc := Q4.2.1.lt
    have ld := Q4.2.2.lt
    have QH4 := Lib.hid Q4
    clear Q4
    go_wp2_with fail
    refine (I1.out _).mono ?_; rintro e w5 ⟨rfl, b5⟩
    have Q5 := ((QH4.out.alloc (.cells #[uV a.1.1, uV a.1.2, .int .u64 a.2.1, .int .u64 a.2.2] 28)).alloc (.cells #[uV b.1.1, uV b.1.2, .int .u64 b.2.1, .int .u64 b.2.2] 28)).after b5
    have x5 : Blk w4.heap.size #[uV a.1.1, uV a.1.2, .int .u64 a.2.1, .int .u64 a.2.2] 28 w5 := ((Blk.new w4 _ _ rfl).allocd (.cells #[uV b.1.1, uV b.1.2, .int .u64 b.2.1, .int .u64 b.2.2] 28)).after b5
    have y5 : Blk (w4.heap.size + 1) #[uV b.1.1, uV b.1.2, .int .u64 b.2.1, .int .u64 b.2.2] 28 w5 := Blk.after (Blk.new (w4.alloc (.cells #[uV a.1.1, uV a.1.2, .int .u64 a.2.1, .int .u64 a.2.2] 28)) _ _ (by simp)) b5
    have kg : w.heap.size + 1 + 1 + 1 < w4.heap.size := ld
    clear QH4 b5 p0 p1 p2 p3 q0 q1 q2 q3 c0 c1 c2 c3 d0 d1 d2 d3 f0 f1 f2 f3 h0 h1 h2 h3 la lb lc ld
    generalize w4.heap.size = g at *
    obtain ⟨p0, p1, p2, p3⟩ := Q5.1.2.1.cells
    obtain ⟨q0, q1, q2, q3⟩ := Q5.1.2.2.cells
    obtain ⟨c0, c1, c2, c3⟩ := Q5.2.1.cells
    obtain ⟨d0, d1, d2, d3⟩ := Q5.2.2.cells
    obtain ⟨f0, f1, f2, f3⟩ := Q5.2.1.free
    obtain ⟨h0, h1, h2, h3⟩ := Q5.2.2.free
    have la := Q5.1.2.1.lt
    have lb := Q5.1.2.2.lt
    have lc := Q5.2.1.lt
    have ld := Q5.2.2.lt
    obtain ⟨x0, x1, x2, x3⟩ := Blk.four x5
    obtain ⟨xf0, xf1, xf2, xf3⟩ := Blk.frees x5
    have xl := Blk.lt x5
    obtain ⟨y0, y1, y2, y3⟩ := Blk.four y5
    obtain ⟨yf0, yf1, yf2, yf3⟩ := Blk.frees y5
    have yl := Blk.lt y5
    clear I1
    have QH := Lib.hid Q5
    have xH := Lib.hid x5
    have yH := Lib.hid y5
    clear Q5 x5 y5
    go_wp2_with fail
    refine (V1.out _).mono ?_; rintro e w6 ⟨rfl, b6⟩
    have Q6 := (QH.out.alloc (.cells #[.int .u64 s1.1, .int .u64 s1.2] 26)).after b6
    have x6 := Blk.after (xH.out.allocd (.cells #[.int .u64 s1.1, .int .u64 s1.2] 26)) b6
    have y6 := Blk.after (yH.out.allocd (.cells #[.int .u64 s1.1, .int .u64 s1.2] 26)) b6
    clear QH xH yH b6 p0 p1 p2 p3 q0 q1 q2 q3 c0 c1 c2 c3 d0 d1 d2 d3 f0 f1 f2 f3 h0 h1 h2 h3 la lb lc ld x0 x1 x2 x3 xf0 xf1 xf2 xf3 xl y0 y1 y2 y3 yf0 yf1 yf2 yf3 yl
    obtain ⟨p0, p1, p2, p3⟩ := Q6.1.2.1.cells
    obtain ⟨q0, q1, q2, q3⟩ := Q6.1.2.2.cells
    obtain ⟨c0, c1, c2, c3⟩ := Q6.2.1.cells
    obtain ⟨d0, d1, d2, d3⟩ := Q6.2.2.cells
    obtain ⟨f0, f1, f2, f3⟩ := Q6.2.1.free
    obtain ⟨h0, h1, h2, h3⟩ := Q6.2.2.free
    have la := Q6.1.2.1.lt
    have lb := Q6.1.2.2.lt
    have lc := Q6.2.1.lt
    have ld := Q6.2.2.lt
    obtain ⟨x0, x1, x2, x3⟩ := Blk.four x6
    obtain ⟨xf0, xf1, xf2, xf3⟩ := Blk.frees x6
    have xl := Blk.lt x6
    obtain ⟨y0, y1, y2, y3⟩ := Blk.four y6
    obtain ⟨yf0, yf1, yf2, yf3⟩ := Blk.frees y6
    have yl := Blk.lt y6
    have QH := Lib.hid Q6
    have xH := Lib.hid x6
    have yH := Lib.hid y6
    clear Q6 x6 y6
    clear V1
    go_wp2_with fail
    refine (T.out _).mono ?_; rintro e w7 ⟨rfl, b7⟩
    have Q7 := (QH.out.other4 (k := g) (by omega) (uV x.1.1) (uV x.1.2) (.int .u64 x.2.1) (.int .u64 x.2.2)).after b7
    have x7 := Blk.after (Blk.set4 xH.out (uV x.1.1) (uV x.1.2) (.int .u64 x.2.1) (.int .u64 x.2.2)) b7
    have y7 := Blk.after (Blk.other4 (k := g) yH.out (by omega) (uV x.1.1) (uV x.1.2) (.int .u64 x.2.1) (.int .u64 x.2.2)) b7
    clear QH xH yH b7 p0 p1 p2 p3 q0 q1 q2 q3 c0 c1 c2 c3 d0 d1 d2 d3 f0 f1 f2 f3 h0 h1 h2 h3 la lb lc ld x0 x1 x2 x3 xf0 xf1 xf2 xf3 xl y0 y1 y2 y3 yf0 yf1 yf2 yf3 yl
    obtain ⟨p0, p1, p2, p3⟩ := Q7.1.2.1.cells
    obtain ⟨q0, q1, q2, q3⟩ := Q7.1.2.2.cells
    obtain ⟨c0, c1, c2, c3⟩ := Q7.2.1.cells
    obtain ⟨d0, d1, d2, d3⟩ := Q7.2.2.cells
    obtain ⟨f0, f1, f2, f3⟩ := Q7.2.1.free
    obtain ⟨h0, h1, h2, h3⟩ := Q7.2.2.free
    have la := Q7.1.2.1.lt
    have lb := Q7.1.2.2.lt
    have lc := Q7.2.1.lt
    have ld := Q7.2.2.lt
    obtain ⟨x0, x1, x2, x3⟩ := Blk.four x7
    obtain ⟨xf0, xf1, xf2, xf3⟩ := Blk.frees x7
    have xl := Blk.lt x7
    obtain ⟨y0, y1, y2, y3⟩ := Blk.four y7
    obtain ⟨yf0, yf1, yf2, yf3⟩ := Blk.frees y7
    have yl := Blk.lt y7
    have QH := Lib.hid Q7
    have xH := Lib.hid x7
    have yH := Lib.hid y7
    clear Q7 x7 y7
    clear T
    go_wp2_with fail
    refine (I2.out _).mono ?_; rintro e w8 ⟨rfl, b8⟩
    have r8 : Blk w7.heap.size #[.int .u64 b.2.1, .int .u64 b.2.2] 26 w8 := Blk.after (Blk.new w7 _ _ rfl) b8
    have kr : g + 1 < w7.heap.size := yl
    have Q8 := (QH.out.alloc (.cells #[.int .u64 b.2.1, .int .u64 b.2.2] 26)).after b8
    have x8 := Blk.after (xH.out.allocd (.cells #[.int .u64 b.2.1, .int .u64 b.2.2] 26)) b8
    have y8 := Blk.after (yH.out.allocd (.cells #[.int .u64 b.2.1, .int .u64 b.2.2] 26)) b8
    clear QH xH yH b8 p0 p1 p2 p3 q0 q1 q2 q3 c0 c1 c2 c3 d0 d1 d2 d3 f0 f1 f2 f3 h0 h1 h2 h3 la lb lc ld x0 x1 x2 x3 xf0 xf1 xf2 xf3 xl y0 y1 y2 y3 yf0 yf1 yf2 yf3 yl
    obtain ⟨p0, p1, p2, p3⟩ := Q8.1.2.1.cells
    obtain ⟨q0, q1, q2, q3⟩ := Q8.1.2.2.cells
    obtain ⟨c0, c1, c2, c3⟩ := Q8.2.1.cells
    obtain ⟨d0, d1, d2, d3⟩ := Q8.2.2.cells
    obtain ⟨f0, f1, f2, f3⟩ := Q8.2.1.free
    obtain ⟨h0, h1, h2, h3⟩ := Q8.2.2.free
    have la := Q8.1.2.1.lt
    have lb := Q8.1.2.2.lt
    have lc := Q8.2.1.lt
    have ld := Q8.2.2.lt
    obtain ⟨x0, x1, x2, x3⟩ := Blk.four x8
    obtain ⟨xf0, xf1, xf2, xf3⟩ := Blk.frees x8
    have xl := Blk.lt x8
    obtain ⟨y0, y1, y2, y3⟩ := Blk.four y8
    obtain ⟨yf0, yf1, yf2, yf3⟩ := Blk.frees y8
    have yl := Blk.lt y8
    have QH := Lib.hid Q8
    have xH := Lib.hid x8
    have yH := Lib.hid y8
    clear Q8 x8 y8
    clear I2
    generalize w7.heap.size = gr at *
    obtain ⟨r0, r1⟩ := Blk.pair r8
    obtain ⟨rf0, rf1, rf2, rf3⟩ := Blk.frees r8
    have rl := Blk.lt r8
    clear r8
    go_wp2_with fail
    refine (V2.out _).mono ?_; rintro e w9 ⟨rfl, b9⟩
    clear rl
    have Q9 := (QH.out.other2 (k := gr) (by omega) (.int .u64 s2.1) (.int .u64 s2.2)).after b9
    have x9 := Blk.after (Blk.other2 (k := gr) xH.out (by omega) (.int .u64 s2.1) (.int .u64 s2.2)) b9
    have y9 := Blk.after (Blk.other2 (k := gr) yH.out (by omega) (.int .u64 s2.1) (.int .u64 s2.2)) b9
    clear QH xH yH b9 p0 p1 p2 p3 q0 q1 q2 q3 c0 c1 c2 c3 d0 d1 d2 d3 f0 f1 f2 f3 h0 h1 h2 h3 la lb lc ld x0 x1 x2 x3 xf0 xf1 xf2 xf3 xl y0 y1 y2 y3 yf0 yf1 yf2 yf3 yl
    obtain ⟨p0, p1, p2, p3⟩ := Q9.1.2.1.cells
    obtain ⟨q0, q1, q2, q3⟩ := Q9.1.2.2.cells
    obtain ⟨c0, c1, c2, c3⟩ := Q9.2.1.cells
    obtain ⟨d0, d1, d2, d3⟩ := Q9.2.2.cells
    obtain ⟨f0, f1, f2, f3⟩ := Q9.2.1.free
    obtain ⟨h0, h1, h2, h3⟩ := Q9.2.2.free
    have la := Q9.1.2.1.lt
    have lb := Q9.1.2.2.lt
    have lc := Q9.2.1.lt
    have ld := Q9.2.2.lt
    obtain ⟨x0, x1, x2, x3⟩ := Blk.four x9
    obtain ⟨xf0, xf1, xf2, xf3⟩ := Blk.frees x9
    have xl := Blk.lt x9
    obtain ⟨y0, y1, y2, y3⟩ := Blk.four y9
    obtain ⟨yf0, yf1, yf2, yf3⟩ := Blk.frees y9
    have yl := Blk.lt y9
    have QH := Lib.hid Q9
    have xH := Lib.hid x9
    have yH := Lib.hid y9
    clear Q9 x9 y9
    clear V2 r0 r1 rf0 rf1 rf2 rf3
    have k9 := kg
    have XE : Hid (FQ a b fZ fZ w (World.setCell (World.setCell (World.setCell (World.setCell (World.setCell (World.setCell (World.setCell (World.setCell (World.setCell (World.setCell (World.setCell (World.setCell w9 ⟨g + 1, 0, none⟩ (uV y.1.1)) ⟨g + 1, 1, none⟩ (uV y.1.2)) ⟨g + 1, 2, none⟩ (.int .u64 y.2.1)) ⟨g + 1, 3, none⟩ (.int .u64 y.2.2)) ⟨w.heap.size + 1 + 1, 0, none⟩ (.int .u64 0)) ⟨w.heap.size + 1 + 1, 1, none⟩ (.int .u64 0)) ⟨w.heap.size + 1 + 1, 2, none⟩ (.int .u64 0)) ⟨w.heap.size + 1 + 1, 3, none⟩ (.int .u64 0)) ⟨w.heap.size + 1 + 1 + 1, 0, none⟩ (.int .u64 0)) ⟨w.heap.size + 1 + 1 + 1, 1, none⟩ (.int .u64 0)) ⟨w.heap.size + 1 + 1 + 1, 2, none⟩ (.int .u64 0)) ⟨w.heap.size + 1 + 1 + 1, 3, none⟩ (.int .u64 0))) := Lib.hid (((QH.out.other4 (k := g + 1) (by omega) (uV y.1.1) (uV y.1.2) (.int .u64 y.2.1) (.int .u64 y.2.2)).xs fZ).ys fZ)
    go_wp2_with fail
    clear p0 p1 p2 p3 q0 q1 q2 q3 c0 c1 c2 c3 d0 d1 d2 d3 f0 f1 f2 f3 h0 h1 h2 h3 la lb lc ld x0 x1 x2 x3 xf0 xf1 xf2 xf3 xl y0 y1 y2 y3 yf0 yf1 yf2 yf3 yl
    generalize (World.setCell (World.setCell (World.setCell (World.setCell (World.setCell (World.setCell (World.setCell (World.setCell (World.setCell (World.setCell (World.setCell (World.setCell w9 ⟨g + 1, 0, none⟩ (uV y.1.1)) ⟨g + 1, 1, none⟩ (uV y.1.2)) ⟨g + 1, 2, none⟩ (.int .u64 y.2.1)) ⟨g + 1, 3, none⟩ (.int .u64 y.2.2)) ⟨w.heap.size + 1 + 1, 0, none⟩ (.int .u64 0)) ⟨w.heap.size + 1 + 1, 1, none⟩ (.int .u64 0)) ⟨w.heap.size + 1 + 1, 2, none⟩ (.int .u64 0)) ⟨w.heap.size + 1 + 1, 3, none⟩ (.int .u64 0)) ⟨w.heap.size + 1 + 1 + 1, 0, none⟩ (.int .u64 0)) ⟨w.heap.size + 1 + 1 + 1, 1, none⟩ (.int .u64 0)) ⟨w.heap.size + 1 + 1 + 1, 2, none⟩ (.int .u64 0)) ⟨w.heap.size + 1 + 1 + 1, 3, none⟩ (.int .u64 0)) = uf at *
    obtain ⟨p0, p1, p2, p3⟩ := XE.out.1.2.1.cells
    obtain ⟨q0, q1, q2, q3⟩ := XE.out.1.2.2.cells
    obtain ⟨c0, c1, c2, c3⟩ := XE.out.2.1.cells
    obtain ⟨d0, d1, d2, d3⟩ := XE.out.2.2.cells
    obtain ⟨f0, f1, f2, f3⟩ := XE.out.2.1.free
    obtain ⟨h0, h1, h2, h3⟩ := XE.out.2.2.free
    have la := XE.out.1.2.1.lt
    have lb := XE.out.1.2.2.lt
    have lc := XE.out.2.1.lt
    have ld := XE.out.2.2.lt
    exact bodyPost_ret (v := fTV fZ fZ false) (by simp [results, Try.results34, go_sem, c0, c1, c2, c3, d0, d1, d2, d3, fZ]) rfl ⟨rfl, XE.out.1.1⟩

set_option maxRecDepth 100000 in
set_option maxHeartbeats 8000000 in
theorem rf_if_b_tfn (op : Int) (ho : (op == 16) = false) (kx ky : Bool) (hk : (kx && ky) = false) (a b : Fc) (w : World)
    (R1 : Hid (∀ w, Calls Try.prog 18 #[fV a] w (Gives (.bool true) w)))
    (R2 : Hid (∀ w, Calls Try.prog 18 #[fV b] w (Gives (.bool true) w)))
    (p : BitVec 64) (K1 : Hid (∀ w, Calls Try.prog 15 #[fV a] w (Gives (.tuple #[uV p, .bool kx]) w)))
    (q : BitVec 64) (K2 : Hid (∀ w, Calls Try.prog 15 #[fV b] w (Gives (.tuple #[uV q, .bool ky]) w)))
    (s1 : Sp) (k1 : Bool) (I1 : Hid (∀ w, Calls Try.prog 70 #[.int .u8 op, sV a.2, sV b.2] w (Gives (sBV s1 k1) w)))
    (x : Fc) (V1 : Hid (∀ w, Calls Try.prog 71 #[fV a, sV s1, .bool k1] w (Gives (fBV x true) w)))
    (tn : Int) (T : Hid (∀ w, Calls Try.prog 72 #[.int .u8 op] w (Gives (.tuple #[.int .u8 tn, .bool true]) w)))
    (s2 : Sp) (k2 : Bool) (I2 : Hid (∀ w, Calls Try.prog 70 #[.int .u8 tn, sV b.2, sV a.2] w (Gives (sBV s2 k2) w)))
    (y : Fc) (V2 : Hid (∀ w, Calls Try.prog 71 #[fV b, sV s2, .bool k2] w (Gives (fBV y false) w)))
    (hs : a.2.2 < 4294967296 ∧ b.2.2 < 4294967296) :
    Calls Try.prog 34 #[.int .u8 op, .bool false, fV a, fV b] w (Gives (fTV fZ fZ false) w) := by
  cases kx <;> cases ky
  case true.true => cases hk
  all_goals
    clear hk
    obtain ⟨hs1, hs2⟩ := hs
    have hx : Hid (FQ a b fZ fZ w ((((w.alloc (.cells #[uV a.1.1, uV a.1.2, .int .u64 a.2.1, .int .u64 a.2.2] 28)).alloc (.cells #[uV b.1.1, uV b.1.2, .int .u64 b.2.1, .int .u64 b.2.2] 28)).alloc (.cells #[.int .u64 0, .int .u64 0, .int .u64 0, .int .u64 0] 28)).alloc (.cells #[.int .u64 0, .int .u64 0, .int .u64 0, .int .u64 0] 28))) := Lib.hid (FQ.new a b fZ fZ w)
    go_enter Try.func34, Try.ntmps34
    go_wp2_with fail
    refine (R1.out _).mono ?_; rintro e w1 ⟨rfl, b1⟩
    have Q1 := hx.out.after b1
    clear hx b1 R1 
    obtain ⟨p0, p1, p2, p3⟩ := Q1.1.2.1.cells
    obtain ⟨q0, q1, q2, q3⟩ := Q1.1.2.2.cells
    obtain ⟨c0, c1, c2, c3⟩ := Q1.2.1.cells
    obtain ⟨d0, d1, d2, d3⟩ := Q1.2.2.cells
    obtain ⟨f0, f1, f2, f3⟩ := Q1.2.1.free
    obtain ⟨h0, h1, h2, h3⟩ := Q1.2.2.free
    have la := Q1.1.2.1.lt
    have lb := Q1.1.2.2.lt
    have lc := Q1.2.1.lt
    have ld := Q1.2.2.lt
    have QH1 := Lib.hid Q1
    clear Q1
    go_wp2_with fail
    refine (R2.out _).mono ?_; rintro e w2 ⟨rfl, b2⟩
    have Q2 := QH1.out.after b2
    clear QH1 b2 R2 p0 p1 p2 p3 q0 q1 q2 q3 c0 c1 c2 c3 d0 d1 d2 d3 f0 f1 f2 f3 h0 h1 h2 h3 la lb lc ld
    obtain ⟨p0, p1, p2, p3⟩ := Q2.1.2.1.cells
    obtain ⟨q0, q1, q2, q3⟩ := Q2.1.2.2.cells
    obtain ⟨c0, c1, c2, c3⟩ := Q2.2.1.cells
    obtain ⟨d0, d1, d2, d3⟩ := Q2.2.2.cells
    obtain ⟨f0, f1, f2, f3⟩ := Q2.2.1.free
    obtain ⟨h0, h1, h2, h3⟩ := Q2.2.2.free
    have la := Q2.1.2.1.lt
    have lb := Q2.1.2.2.lt
    have lc := Q2.2.1.lt
    have ld := Q2.2.2.lt
    have QH2 := Lib.hid Q2
    clear Q2
    go_wp2_with fail
    refine (K1.out _).mono ?_; rintro e w3 ⟨rfl, b3⟩
    have Q3 := QH2.out.after b3
    clear QH2 b3 K1 p0 p1 p2 p3 q0 q1 q2 q3 c0 c1 c2 c3 d0 d1 d2 d3 f0 f1 f2 f3 h0 h1 h2 h3 la lb lc ld
    obtain ⟨p0, p1, p2, p3⟩ := Q3.1.2.1.cells
    obtain ⟨q0, q1, q2, q3⟩ := Q3.1.2.2.cells
    obtain ⟨c0, c1, c2, c3⟩ := Q3.2.1.cells
    obtain ⟨d0, d1, d2, d3⟩ := Q3.2.2.cells
    obtain ⟨f0, f1, f2, f3⟩ := Q3.2.1.free
    obtain ⟨h0, h1, h2, h3⟩ := Q3.2.2.free
    have la := Q3.1.2.1.lt
    have lb := Q3.1.2.2.lt
    have lc := Q3.2.1.lt
    have ld := Q3.2.2.lt
    have QH3 := Lib.hid Q3
    clear Q3
    go_wp2_with fail
    refine (K2.out _).mono ?_; rintro e w4 ⟨rfl, b4⟩
    have Q4 := QH3.out.after b4
    clear QH3 b4 K2 p0 p1 p2 p3 q0 q1 q2 q3 c0 c1 c2 c3 d0 d1 d2 d3 f0 f1 f2 f3 h0 h1 h2 h3 la lb lc ld
    obtain ⟨p0, p1, p2, p3⟩ := Q4.1.2.1.cells
    obtain ⟨q0, q1, q2, q3⟩ := Q4.1.2.2.cells
    obtain ⟨c0, c1, c2, c3⟩ := Q4.2.1.cells
    obtain ⟨d0, d1, d2, d3⟩ := Q4.2.2.cells
    obtain ⟨f0, f1, f2, f3⟩ := Q4.2.1.free
    obtain ⟨h0, h1, h2, h3⟩ := Q4.2.2.free
    have la := Q4.1.2.1.lt
    have lb := Q4.1.2.2.lt
    have lc := Q4.2.1.lt
    have ld := Q4.2.2.lt
    have QH4 := Lib.hid Q4
    clear Q4
    go_wp2_with fail
    refine (I1.out _).mono ?_; rintro e w5 ⟨rfl, b5⟩
    have Q5 := ((QH4.out.alloc (.cells #[uV a.1.1, uV a.1.2, .int .u64 a.2.1, .int .u64 a.2.2] 28)).alloc (.cells #[uV b.1.1, uV b.1.2, .int .u64 b.2.1, .int .u64 b.2.2] 28)).after b5
    have x5 : Blk w4.heap.size #[uV a.1.1, uV a.1.2, .int .u64 a.2.1, .int .u64 a.2.2] 28 w5 := ((Blk.new w4 _ _ rfl).allocd (.cells #[uV b.1.1, uV b.1.2, .int .u64 b.2.1, .int .u64 b.2.2] 28)).after b5
    have y5 : Blk (w4.heap.size + 1) #[uV b.1.1, uV b.1.2, .int .u64 b.2.1, .int .u64 b.2.2] 28 w5 := Blk.after (Blk.new (w4.alloc (.cells #[uV a.1.1, uV a.1.2, .int .u64 a.2.1, .int .u64 a.2.2] 28)) _ _ (by simp)) b5
    have kg : w.heap.size + 1 + 1 + 1 < w4.heap.size := ld
    clear QH4 b5 p0 p1 p2 p3 q0 q1 q2 q3 c0 c1 c2 c3 d0 d1 d2 d3 f0 f1 f2 f3 h0 h1 h2 h3 la lb lc ld
    generalize w4.heap.size = g at *
    obtain ⟨p0, p1, p2, p3⟩ := Q5.1.2.1.cells
    obtain ⟨q0, q1, q2, q3⟩ := Q5.1.2.2.cells
    obtain ⟨c0, c1, c2, c3⟩ := Q5.2.1.cells
    obtain ⟨d0, d1, d2, d3⟩ := Q5.2.2.cells
    obtain ⟨f0, f1, f2, f3⟩ := Q5.2.1.free
    obtain ⟨h0, h1, h2, h3⟩ := Q5.2.2.free
    have la := Q5.1.2.1.lt
    have lb := Q5.1.2.2.lt
    have lc := Q5.2.1.lt
    have ld := Q5.2.2.lt
    obtain ⟨x0, x1, x2, x3⟩ := Blk.four x5
    obtain ⟨xf0, xf1, xf2, xf3⟩ := Blk.frees x5
    have xl := Blk.lt x5
    obtain ⟨y0, y1, y2, y3⟩ := Blk.four y5
    obtain ⟨yf0, yf1, yf2, yf3⟩ := Blk.frees y5
    have yl := Blk.lt y5
    clear I1
    have QH := Lib.hid Q5
    have xH := Lib.hid x5
    have yH := Lib.hid y5
    clear Q5 x5 y5
    go_wp2_with fail
    refine (V1.out _).mono ?_; rintro e w6 ⟨rfl, b6⟩
    have Q6 := (QH.out.alloc (.cells #[.int .u64 s1.1, .int .u64 s1.2] 26)).after b6
    have x6 := Blk.after (xH.out.allocd (.cells #[.int .u64 s1.1, .int .u64 s1.2] 26)) b6
    have y6 := Blk.after (yH.out.allocd (.cells #[.int .u64 s1.1, .int .u64 s1.2] 26)) b6
    clear QH xH yH b6 p0 p1 p2 p3 q0 q1 q2 q3 c0 c1 c2 c3 d0 d1 d2 d3 f0 f1 f2 f3 h0 h1 h2 h3 la lb lc ld x0 x1 x2 x3 xf0 xf1 xf2 xf3 xl y0 y1 y2 y3 yf0 yf1 yf2 yf3 yl
    obtain ⟨p0, p1, p2, p3⟩ := Q6.1.2.1.cells
    obtain ⟨q0, q1, q2, q3⟩ := Q6.1.2.2.cells
    obtain ⟨c0, c1, c2, c3⟩ := Q6.2.1.cells
    obtain ⟨d0, d1, d2, d3⟩ := Q6.2.2.cells
    obtain ⟨f0, f1, f2, f3⟩ := Q6.2.1.free
    obtain ⟨h0, h1, h2, h3⟩ := Q6.2.2.free
    have la := Q6.1.2.1.lt
    have lb := Q6.1.2.2.lt
    have lc := Q6.2.1.lt
    have ld := Q6.2.2.lt
    obtain ⟨x0, x1, x2, x3⟩ := Blk.four x6
    obtain ⟨xf0, xf1, xf2, xf3⟩ := Blk.frees x6
    have xl := Blk.lt x6
    obtain ⟨y0, y1, y2, y3⟩ := Blk.four y6
    obtain ⟨yf0, yf1, yf2, yf3⟩ := Blk.frees y6
    have yl := Blk.lt y6
    have QH := Lib.hid Q6
    have xH := Lib.hid x6
    have yH := Lib.hid y6
    clear Q6 x6 y6
    clear V1
    go_wp2_with fail
    refine (T.out _).mono ?_; rintro e w7 ⟨rfl, b7⟩
    have Q7 := (QH.out.other4 (k := g) (by omega) (uV x.1.1) (uV x.1.2) (.int .u64 x.2.1) (.int .u64 x.2.2)).after b7
    have x7 := Blk.after (Blk.set4 xH.out (uV x.1.1) (uV x.1.2) (.int .u64 x.2.1) (.int .u64 x.2.2)) b7
    have y7 := Blk.after (Blk.other4 (k := g) yH.out (by omega) (uV x.1.1) (uV x.1.2) (.int .u64 x.2.1) (.int .u64 x.2.2)) b7
    clear QH xH yH b7 p0 p1 p2 p3 q0 q1 q2 q3 c0 c1 c2 c3 d0 d1 d2 d3 f0 f1 f2 f3 h0 h1 h2 h3 la lb lc ld x0 x1 x2 x3 xf0 xf1 xf2 xf3 xl y0 y1 y2 y3 yf0 yf1 yf2 yf3 yl
    obtain ⟨p0, p1, p2, p3⟩ := Q7.1.2.1.cells
    obtain ⟨q0, q1, q2, q3⟩ := Q7.1.2.2.cells
    obtain ⟨c0, c1, c2, c3⟩ := Q7.2.1.cells
    obtain ⟨d0, d1, d2, d3⟩ := Q7.2.2.cells
    obtain ⟨f0, f1, f2, f3⟩ := Q7.2.1.free
    obtain ⟨h0, h1, h2, h3⟩ := Q7.2.2.free
    have la := Q7.1.2.1.lt
    have lb := Q7.1.2.2.lt
    have lc := Q7.2.1.lt
    have ld := Q7.2.2.lt
    obtain ⟨x0, x1, x2, x3⟩ := Blk.four x7
    obtain ⟨xf0, xf1, xf2, xf3⟩ := Blk.frees x7
    have xl := Blk.lt x7
    obtain ⟨y0, y1, y2, y3⟩ := Blk.four y7
    obtain ⟨yf0, yf1, yf2, yf3⟩ := Blk.frees y7
    have yl := Blk.lt y7
    have QH := Lib.hid Q7
    have xH := Lib.hid x7
    have yH := Lib.hid y7
    clear Q7 x7 y7
    clear T
    go_wp2_with fail
    refine (I2.out _).mono ?_; rintro e w8 ⟨rfl, b8⟩
    have r8 : Blk w7.heap.size #[.int .u64 b.2.1, .int .u64 b.2.2] 26 w8 := Blk.after (Blk.new w7 _ _ rfl) b8
    have kr : g + 1 < w7.heap.size := yl
    have Q8 := (QH.out.alloc (.cells #[.int .u64 b.2.1, .int .u64 b.2.2] 26)).after b8
    have x8 := Blk.after (xH.out.allocd (.cells #[.int .u64 b.2.1, .int .u64 b.2.2] 26)) b8
    have y8 := Blk.after (yH.out.allocd (.cells #[.int .u64 b.2.1, .int .u64 b.2.2] 26)) b8
    clear QH xH yH b8 p0 p1 p2 p3 q0 q1 q2 q3 c0 c1 c2 c3 d0 d1 d2 d3 f0 f1 f2 f3 h0 h1 h2 h3 la lb lc ld x0 x1 x2 x3 xf0 xf1 xf2 xf3 xl y0 y1 y2 y3 yf0 yf1 yf2 yf3 yl
    obtain ⟨p0, p1, p2, p3⟩ := Q8.1.2.1.cells
    obtain ⟨q0, q1, q2, q3⟩ := Q8.1.2.2.cells
    obtain ⟨c0, c1, c2, c3⟩ := Q8.2.1.cells
    obtain ⟨d0, d1, d2, d3⟩ := Q8.2.2.cells
    obtain ⟨f0, f1, f2, f3⟩ := Q8.2.1.free
    obtain ⟨h0, h1, h2, h3⟩ := Q8.2.2.free
    have la := Q8.1.2.1.lt
    have lb := Q8.1.2.2.lt
    have lc := Q8.2.1.lt
    have ld := Q8.2.2.lt
    obtain ⟨x0, x1, x2, x3⟩ := Blk.four x8
    obtain ⟨xf0, xf1, xf2, xf3⟩ := Blk.frees x8
    have xl := Blk.lt x8
    obtain ⟨y0, y1, y2, y3⟩ := Blk.four y8
    obtain ⟨yf0, yf1, yf2, yf3⟩ := Blk.frees y8
    have yl := Blk.lt y8
    have QH := Lib.hid Q8
    have xH := Lib.hid x8
    have yH := Lib.hid y8
    clear Q8 x8 y8
    clear I2
    generalize w7.heap.size = gr at *
    obtain ⟨r0, r1⟩ := Blk.pair r8
    obtain ⟨rf0, rf1, rf2, rf3⟩ := Blk.frees r8
    have rl := Blk.lt r8
    clear r8
    go_wp2_with fail
    refine (V2.out _).mono ?_; rintro e w9 ⟨rfl, b9⟩
    clear rl
    have Q9 := (QH.out.other2 (k := gr) (by omega) (.int .u64 s2.1) (.int .u64 s2.2)).after b9
    have x9 := Blk.after (Blk.other2 (k := gr) xH.out (by omega) (.int .u64 s2.1) (.int .u64 s2.2)) b9
    have y9 := Blk.after (Blk.other2 (k := gr) yH.out (by omega) (.int .u64 s2.1) (.int .u64 s2.2)) b9
    clear QH xH yH b9 p0 p1 p2 p3 q0 q1 q2 q3 c0 c1 c2 c3 d0 d1 d2 d3 f0 f1 f2 f3 h0 h1 h2 h3 la lb lc ld x0 x1 x2 x3 xf0 xf1 xf2 xf3 xl y0 y1 y2 y3 yf0 yf1 yf2 yf3 yl
    obtain ⟨p0, p1, p2, p3⟩ := Q9.1.2.1.cells
    obtain ⟨q0, q1, q2, q3⟩ := Q9.1.2.2.cells
    obtain ⟨c0, c1, c2, c3⟩ := Q9.2.1.cells
    obtain ⟨d0, d1, d2, d3⟩ := Q9.2.2.cells
    obtain ⟨f0, f1, f2, f3⟩ := Q9.2.1.free
    obtain ⟨h0, h1, h2, h3⟩ := Q9.2.2.free
    have la := Q9.1.2.1.lt
    have lb := Q9.1.2.2.lt
    have lc := Q9.2.1.lt
    have ld := Q9.2.2.lt
    obtain ⟨x0, x1, x2, x3⟩ := Blk.four x9
    obtain ⟨xf0, xf1, xf2, xf3⟩ := Blk.frees x9
    have xl := Blk.lt x9
    obtain ⟨y0, y1, y2, y3⟩ := Blk.four y9
    obtain ⟨yf0, yf1, yf2, yf3⟩ := Blk.frees y9
    have yl := Blk.lt y9
    have QH := Lib.hid Q9
    have xH := Lib.hid x9
    have yH := Lib.hid y9
    clear Q9 x9 y9
    clear V2 r0 r1 rf0 rf1 rf2 rf3
    have k9 := kg
    have XE : Hid (FQ a b fZ fZ w (World.setCell (World.setCell (World.setCell (World.setCell (World.setCell (World.setCell (World.setCell (World.setCell (World.setCell (World.setCell (World.setCell (World.setCell w9 ⟨g + 1, 0, none⟩ (uV y.1.1)) ⟨g + 1, 1, none⟩ (uV y.1.2)) ⟨g + 1, 2, none⟩ (.int .u64 y.2.1)) ⟨g + 1, 3, none⟩ (.int .u64 y.2.2)) ⟨w.heap.size + 1 + 1, 0, none⟩ (.int .u64 0)) ⟨w.heap.size + 1 + 1, 1, none⟩ (.int .u64 0)) ⟨w.heap.size + 1 + 1, 2, none⟩ (.int .u64 0)) ⟨w.heap.size + 1 + 1, 3, none⟩ (.int .u64 0)) ⟨w.heap.size + 1 + 1 + 1, 0, none⟩ (.int .u64 0)) ⟨w.heap.size + 1 + 1 + 1, 1, none⟩ (.int .u64 0)) ⟨w.heap.size + 1 + 1 + 1, 2, none⟩ (.int .u64 0)) ⟨w.heap.size + 1 + 1 + 1, 3, none⟩ (.int .u64 0))) := Lib.hid (((QH.out.other4 (k := g + 1) (by omega) (uV y.1.1) (uV y.1.2) (.int .u64 y.2.1) (.int .u64 y.2.2)).xs fZ).ys fZ)
    go_wp2_with fail
    clear p0 p1 p2 p3 q0 q1 q2 q3 c0 c1 c2 c3 d0 d1 d2 d3 f0 f1 f2 f3 h0 h1 h2 h3 la lb lc ld x0 x1 x2 x3 xf0 xf1 xf2 xf3 xl y0 y1 y2 y3 yf0 yf1 yf2 yf3 yl
    generalize (World.setCell (World.setCell (World.setCell (World.setCell (World.setCell (World.setCell (World.setCell (World.setCell (World.setCell (World.setCell (World.setCell (World.setCell w9 ⟨g + 1, 0, none⟩ (uV y.1.1)) ⟨g + 1, 1, none⟩ (uV y.1.2)) ⟨g + 1, 2, none⟩ (.int .u64 y.2.1)) ⟨g + 1, 3, none⟩ (.int .u64 y.2.2)) ⟨w.heap.size + 1 + 1, 0, none⟩ (.int .u64 0)) ⟨w.heap.size + 1 + 1, 1, none⟩ (.int .u64 0)) ⟨w.heap.size + 1 + 1, 2, none⟩ (.int .u64 0)) ⟨w.heap.size + 1 + 1, 3, none⟩ (.int .u64 0)) ⟨w.heap.size + 1 + 1 + 1, 0, none⟩ (.int .u64 0)) ⟨w.heap.size + 1 + 1 + 1, 1, none⟩ (.int .u64 0)) ⟨w.heap.size + 1 + 1 + 1, 2, none⟩ (.int .u64 0)) ⟨w.heap.size + 1 + 1 + 1, 3, none⟩ (.int .u64 0)) = uf at *
    obtain ⟨p0, p1, p2, p3⟩ := XE.out.1.2.1.cells
    obtain ⟨q0, q1, q2, q3⟩ := XE.out.1.2.2.cells
    obtain ⟨c0, c1, c2, c3⟩ := XE.out.2.1.cells
    obtain ⟨d0, d1, d2, d3⟩ := XE.out.2.2.cells
    obtain ⟨f0, f1, f2, f3⟩ := XE.out.2.1.free
    obtain ⟨h0, h1, h2, h3⟩ := XE.out.2.2.free
    have la := XE.out.1.2.1.lt
    have lb := XE.out.1.2.2.lt
    have lc := XE.out.2.1.lt
    have ld := XE.out.2.2.lt
    exact bodyPost_ret (v := fTV fZ fZ false) (by simp [results, Try.results34, go_sem, c0, c1, c2, c3, d0, d1, d2, d3, fZ]) rfl ⟨rfl, XE.out.1.1⟩

end Go.Proofs.Ytfepokiibdkoeaa

