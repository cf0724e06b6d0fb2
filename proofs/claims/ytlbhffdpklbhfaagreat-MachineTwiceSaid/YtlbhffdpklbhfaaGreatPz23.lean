/-
  Texts, one behind the other: Code4.
  Conditions: those that each theorem states.
-/
import Derived.Test.YtlbhffdpklbhfaaGreatPz19
import Derived.Test.YtlbhffdpklbhfaaGreatPz20
import Derived.Test.YtlbhffdpklbhfaaGreatPz21
import Derived.Test.YtlbhffdpklbhfaaGreatPz22
import Derived.Test.YtlbhffdpklbhfaaGreatPz15
namespace Go.Proofs.YtlbhffdpklbhfaaGreat
open Go.RowKit
set_option maxRecDepth 100000
set_option linter.unusedVariables false
set_option linter.unusedSimpArgs false
set_option maxRecDepth 100000 in
set_option maxHeartbeats 2000000 in
theorem c7_told0 (x : Ins) (v : Wh) (f : Int)  (w : World)
    (C : Hid (∀ w, Calls Tryz.prog 144 #[iV x] w (Gives (.int .u8 0) w)))
    (D : Hid (∀ w, Calls Tryz.prog 145 #[iV x] w (Gives (.tuple #[whV v, .int .u8 f]) w))) :
    Calls Tryz.prog 101 #[iV x] w (Gives (.tuple #[whV v, .int .u8 f]) w) := by
  have Q := Lib.hid (IDuo.new x Wh.zero w)
  go_enter Tryz.func101, Tryz.ntmps101
  go_wp2_with fail
  refine (C.out _).mono ?_
  rintro e w11 ⟨rfl, hb⟩
  replace Q := Lib.hid (Q.out.after hb)
  clear hb
  obtain ⟨p0, p1, p2, p3, p4⟩ := Q.out.2.1.cells
  obtain ⟨f0, f1, f2, f3, f4, f5⟩ := Q.out.2.2.free
  obtain ⟨z0, z1, z2, z3, z4, z5⟩ := Q.out.2.2.cells
  have k1 := Q.out.2.1.lt
  have k2 := Q.out.2.2.lt
  go_wp2_with fail
  refine (D.out _).mono ?_
  rintro e w12 ⟨rfl, hb⟩
  replace Q := Lib.hid (Q.out.after hb)
  clear hb
  clear p0 p1 p2 p3 p4 f0 f1 f2 f3 f4 f5 z0 z1 z2 z3 z4 z5 k1 k2
  obtain ⟨p0, p1, p2, p3, p4⟩ := Q.out.2.1.cells
  obtain ⟨f0, f1, f2, f3, f4, f5⟩ := Q.out.2.2.free
  obtain ⟨z0, z1, z2, z3, z4, z5⟩ := Q.out.2.2.cells
  have k1 := Q.out.2.1.lt
  have k2 := Q.out.2.2.lt
  have BB := Lib.hid (Q.out.set v).1
  go_wp2_with fail
  exact bodyPost_ret (v := .tuple #[whV v, .int .u8 f]) (by simp [results, Tryz.results101, go_sem, z0, z1, z2, z3, z4, z5, k2, Wh.zero]) rfl ⟨rfl, BB.out⟩
set_option maxRecDepth 100000 in
set_option maxHeartbeats 2000000 in
theorem c7_told1 (x : Ins) (v : Wh) (f : Int)  (w : World)
    (C : Hid (∀ w, Calls Tryz.prog 144 #[iV x] w (Gives (.int .u8 1) w)))
    (D : Hid (∀ w, Calls Tryz.prog 146 #[iV x] w (Gives (.tuple #[whV v, .int .u8 f]) w))) :
    Calls Tryz.prog 101 #[iV x] w (Gives (.tuple #[whV v, .int .u8 f]) w) := by
  have Q := Lib.hid (IDuo.new x Wh.zero w)
  go_enter Tryz.func101, Tryz.ntmps101
  go_wp2_with fail
  refine (C.out _).mono ?_
  rintro e w13 ⟨rfl, hb⟩
  replace Q := Lib.hid (Q.out.after hb)
  clear hb
  obtain ⟨p0, p1, p2, p3, p4⟩ := Q.out.2.1.cells
  obtain ⟨f0, f1, f2, f3, f4, f5⟩ := Q.out.2.2.free
  obtain ⟨z0, z1, z2, z3, z4, z5⟩ := Q.out.2.2.cells
  have k1 := Q.out.2.1.lt
  have k2 := Q.out.2.2.lt
  go_wp2_with fail
  refine (D.out _).mono ?_
  rintro e w14 ⟨rfl, hb⟩
  replace Q := Lib.hid (Q.out.after hb)
  clear hb
  clear p0 p1 p2 p3 p4 f0 f1 f2 f3 f4 f5 z0 z1 z2 z3 z4 z5 k1 k2
  obtain ⟨p0, p1, p2, p3, p4⟩ := Q.out.2.1.cells
  obtain ⟨f0, f1, f2, f3, f4, f5⟩ := Q.out.2.2.free
  obtain ⟨z0, z1, z2, z3, z4, z5⟩ := Q.out.2.2.cells
  have k1 := Q.out.2.1.lt
  have k2 := Q.out.2.2.lt
  have BB := Lib.hid (Q.out.set v).1
  go_wp2_with fail
  exact bodyPost_ret (v := .tuple #[whV v, .int .u8 f]) (by simp [results, Tryz.results101, go_sem, z0, z1, z2, z3, z4, z5, k2, Wh.zero]) rfl ⟨rfl, BB.out⟩
set_option maxRecDepth 100000 in
set_option maxHeartbeats 2000000 in
theorem c7_told2 (x : Ins) (v : Wh) (f : Int)  (w : World)
    (C : Hid (∀ w, Calls Tryz.prog 144 #[iV x] w (Gives (.int .u8 2) w)))
    (D : Hid (∀ w, Calls Tryz.prog 147 #[iV x] w (Gives (.tuple #[whV v, .int .u8 f]) w))) :
    Calls Tryz.prog 101 #[iV x] w (Gives (.tuple #[whV v, .int .u8 f]) w) := by
  have Q := Lib.hid (IDuo.new x Wh.zero w)
  go_enter Tryz.func101, Tryz.ntmps101
  go_wp2_with fail
  refine (C.out _).mono ?_
  rintro e w15 ⟨rfl, hb⟩
  replace Q := Lib.hid (Q.out.after hb)
  clear hb
  obtain ⟨p0, p1, p2, p3, p4⟩ := Q.out.2.1.cells
  obtain ⟨f0, f1, f2, f3, f4, f5⟩ := Q.out.2.2.free
  obtain ⟨z0, z1, z2, z3, z4, z5⟩ := Q.out.2.2.cells
  have k1 := Q.out.2.1.lt
  have k2 := Q.out.2.2.lt
  go_wp2_with fail
  refine (D.out _).mono ?_
  rintro e w16 ⟨rfl, hb⟩
  replace Q := Lib.hid (Q.out.after hb)
  clear hb
  clear p0 p1 p2 p3 p4 f0 f1 f2 f3 f4 f5 z0 z1 z2 z3 z4 z5 k1 k2
  obtain ⟨p0, p1, p2, p3, p4⟩ := Q.out.2.1.cells
  obtain ⟨f0, f1, f2, f3, f4, f5⟩ := Q.out.2.2.free
  obtain ⟨z0, z1, z2, z3, z4, z5⟩ := Q.out.2.2.cells
  have k1 := Q.out.2.1.lt
  have k2 := Q.out.2.2.lt
  have BB := Lib.hid (Q.out.set v).1
  go_wp2_with fail
  exact bodyPost_ret (v := .tuple #[whV v, .int .u8 f]) (by simp [results, Tryz.results101, go_sem, z0, z1, z2, z3, z4, z5, k2, Wh.zero]) rfl ⟨rfl, BB.out⟩
set_option maxRecDepth 100000 in
set_option maxHeartbeats 2000000 in
theorem c7_told3 (x : Ins) (v : Wh) (f : Int)  (w : World)
    (C : Hid (∀ w, Calls Tryz.prog 144 #[iV x] w (Gives (.int .u8 3) w)))
    (D : Hid (∀ w, Calls Tryz.prog 148 #[iV x] w (Gives (.tuple #[whV v, .int .u8 f]) w))) :
    Calls Tryz.prog 101 #[iV x] w (Gives (.tuple #[whV v, .int .u8 f]) w) := by
  have Q := Lib.hid (IDuo.new x Wh.zero w)
  go_enter Tryz.func101, Tryz.ntmps101
  go_wp2_with fail
  refine (C.out _).mono ?_
  rintro e w17 ⟨rfl, hb⟩
  replace Q := Lib.hid (Q.out.after hb)
  clear hb
  obtain ⟨p0, p1, p2, p3, p4⟩ := Q.out.2.1.cells
  obtain ⟨f0, f1, f2, f3, f4, f5⟩ := Q.out.2.2.free
  obtain ⟨z0, z1, z2, z3, z4, z5⟩ := Q.out.2.2.cells
  have k1 := Q.out.2.1.lt
  have k2 := Q.out.2.2.lt
  go_wp2_with fail
  refine (D.out _).mono ?_
  rintro e w18 ⟨rfl, hb⟩
  replace Q := Lib.hid (Q.out.after hb)
  clear hb
  clear p0 p1 p2 p3 p4 f0 f1 f2 f3 f4 f5 z0 z1 z2 z3 z4 z5 k1 k2
  obtain ⟨p0, p1, p2, p3, p4⟩ := Q.out.2.1.cells
  obtain ⟨f0, f1, f2, f3, f4, f5⟩ := Q.out.2.2.free
  obtain ⟨z0, z1, z2, z3, z4, z5⟩ := Q.out.2.2.cells
  have k1 := Q.out.2.1.lt
  have k2 := Q.out.2.2.lt
  have BB := Lib.hid (Q.out.set v).1
  go_wp2_with fail
  exact bodyPost_ret (v := .tuple #[whV v, .int .u8 f]) (by simp [results, Tryz.results101, go_sem, z0, z1, z2, z3, z4, z5, k2, Wh.zero]) rfl ⟨rfl, BB.out⟩
set_option maxRecDepth 100000 in
set_option maxHeartbeats 2000000 in
theorem c7_told4_swaps (x : Ins) (v : Wh) (f : Int) (h : Int) (hh : 192 < h) (w : World)
    (C : Hid (∀ w, Calls Tryz.prog 144 #[iV x] w (Gives (.int .u8 4) w)))
    (K : Hid (∀ w, Calls Tryz.prog 149 #[iV x] w (Gives (.int .u8 h) w)))
    (D : Hid (∀ w, Calls Tryz.prog 150 #[iV x] w (Gives (.tuple #[whV v, .int .u8 f]) w))) :
    Calls Tryz.prog 101 #[iV x] w (Gives (.tuple #[whV v, .int .u8 f]) w) := by
  have Q := Lib.hid (IDuo.new x Wh.zero w)
  go_enter Tryz.func101, Tryz.ntmps101
  go_wp2_with fail
  refine (C.out _).mono ?_
  rintro e w19 ⟨rfl, hb⟩
  replace Q := Lib.hid (Q.out.after hb)
  clear hb
  obtain ⟨p0, p1, p2, p3, p4⟩ := Q.out.2.1.cells
  obtain ⟨f0, f1, f2, f3, f4, f5⟩ := Q.out.2.2.free
  obtain ⟨z0, z1, z2, z3, z4, z5⟩ := Q.out.2.2.cells
  have k1 := Q.out.2.1.lt
  have k2 := Q.out.2.2.lt
  go_wp2_with fail
  refine (K.out _).mono ?_
  rintro e w20 ⟨rfl, hb⟩
  replace Q := Lib.hid (Q.out.after hb)
  clear hb
  clear p0 p1 p2 p3 p4 f0 f1 f2 f3 f4 f5 z0 z1 z2 z3 z4 z5 k1 k2
  obtain ⟨p0, p1, p2, p3, p4⟩ := Q.out.2.1.cells
  obtain ⟨f0, f1, f2, f3, f4, f5⟩ := Q.out.2.2.free
  obtain ⟨z0, z1, z2, z3, z4, z5⟩ := Q.out.2.2.cells
  have k1 := Q.out.2.1.lt
  have k2 := Q.out.2.2.lt
  go_wp2_with fail
  refine (D.out _).mono ?_
  rintro e w21 ⟨rfl, hb⟩
  replace Q := Lib.hid (Q.out.after hb)
  clear hb
  clear p0 p1 p2 p3 p4 f0 f1 f2 f3 f4 f5 z0 z1 z2 z3 z4 z5 k1 k2
  obtain ⟨p0, p1, p2, p3, p4⟩ := Q.out.2.1.cells
  obtain ⟨f0, f1, f2, f3, f4, f5⟩ := Q.out.2.2.free
  obtain ⟨z0, z1, z2, z3, z4, z5⟩ := Q.out.2.2.cells
  have k1 := Q.out.2.1.lt
  have k2 := Q.out.2.2.lt
  have BB := Lib.hid (Q.out.set v).1
  go_wp2_with fail
  exact bodyPost_ret (v := .tuple #[whV v, .int .u8 f]) (by simp [results, Tryz.results101, go_sem, z0, z1, z2, z3, z4, z5, k2, Wh.zero]) rfl ⟨rfl, BB.out⟩
set_option maxRecDepth 100000 in
set_option maxHeartbeats 2000000 in
theorem c7_told4_arith (x : Ins) (v : Wh) (f : Int) (h : Int) (hh : h ≤ 192) (w : World)
    (C : Hid (∀ w, Calls Tryz.prog 144 #[iV x] w (Gives (.int .u8 4) w)))
    (K : Hid (∀ w, Calls Tryz.prog 149 #[iV x] w (Gives (.int .u8 h) w)))
    (D : Hid (∀ w, Calls Tryz.prog 151 #[iV x] w (Gives (.tuple #[whV v, .int .u8 f]) w))) :
    Calls Tryz.prog 101 #[iV x] w (Gives (.tuple #[whV v, .int .u8 f]) w) := by
  have Q := Lib.hid (IDuo.new x Wh.zero w)
  go_enter Tryz.func101, Tryz.ntmps101
  go_wp2_with fail
  refine (C.out _).mono ?_
  rintro e w22 ⟨rfl, hb⟩
  replace Q := Lib.hid (Q.out.after hb)
  clear hb
  obtain ⟨p0, p1, p2, p3, p4⟩ := Q.out.2.1.cells
  obtain ⟨f0, f1, f2, f3, f4, f5⟩ := Q.out.2.2.free
  obtain ⟨z0, z1, z2, z3, z4, z5⟩ := Q.out.2.2.cells
  have k1 := Q.out.2.1.lt
  have k2 := Q.out.2.2.lt
  go_wp2_with fail
  refine (K.out _).mono ?_
  rintro e w23 ⟨rfl, hb⟩
  replace Q := Lib.hid (Q.out.after hb)
  clear hb
  clear p0 p1 p2 p3 p4 f0 f1 f2 f3 f4 f5 z0 z1 z2 z3 z4 z5 k1 k2
  obtain ⟨p0, p1, p2, p3, p4⟩ := Q.out.2.1.cells
  obtain ⟨f0, f1, f2, f3, f4, f5⟩ := Q.out.2.2.free
  obtain ⟨z0, z1, z2, z3, z4, z5⟩ := Q.out.2.2.cells
  have k1 := Q.out.2.1.lt
  have k2 := Q.out.2.2.lt
  go_wp2_with fail
  refine (D.out _).mono ?_
  rintro e w24 ⟨rfl, hb⟩
  replace Q := Lib.hid (Q.out.after hb)
  clear hb
  clear p0 p1 p2 p3 p4 f0 f1 f2 f3 f4 f5 z0 z1 z2 z3 z4 z5 k1 k2
  obtain ⟨p0, p1, p2, p3, p4⟩ := Q.out.2.1.cells
  obtain ⟨f0, f1, f2, f3, f4, f5⟩ := Q.out.2.2.free
  obtain ⟨z0, z1, z2, z3, z4, z5⟩ := Q.out.2.2.cells
  have k1 := Q.out.2.1.lt
  have k2 := Q.out.2.2.lt
  have BB := Lib.hid (Q.out.set v).1
  go_wp2_with fail
  exact bodyPost_ret (v := .tuple #[whV v, .int .u8 f]) (by simp [results, Tryz.results101, go_sem, z0, z1, z2, z3, z4, z5, k2, Wh.zero]) rfl ⟨rfl, BB.out⟩
set_option maxRecDepth 100000 in
set_option maxHeartbeats 2000000 in
theorem c7_told7_swaps (x : Ins) (v : Wh) (f : Int) (h : Int) (hh : 192 < h) (w : World)
    (C : Hid (∀ w, Calls Tryz.prog 144 #[iV x] w (Gives (.int .u8 7) w)))
    (K : Hid (∀ w, Calls Tryz.prog 149 #[iV x] w (Gives (.int .u8 h) w)))
    (D : Hid (∀ w, Calls Tryz.prog 150 #[iV x] w (Gives (.tuple #[whV v, .int .u8 f]) w))) :
    Calls Tryz.prog 101 #[iV x] w (Gives (.tuple #[whV v, .int .u8 f]) w) := by
  have Q := Lib.hid (IDuo.new x Wh.zero w)
  go_enter Tryz.func101, Tryz.ntmps101
  go_wp2_with fail
  refine (C.out _).mono ?_
  rintro e w25 ⟨rfl, hb⟩
  replace Q := Lib.hid (Q.out.after hb)
  clear hb
  obtain ⟨p0, p1, p2, p3, p4⟩ := Q.out.2.1.cells
  obtain ⟨f0, f1, f2, f3, f4, f5⟩ := Q.out.2.2.free
  obtain ⟨z0, z1, z2, z3, z4, z5⟩ := Q.out.2.2.cells
  have k1 := Q.out.2.1.lt
  have k2 := Q.out.2.2.lt
  go_wp2_with fail
  refine (K.out _).mono ?_
  rintro e w26 ⟨rfl, hb⟩
  replace Q := Lib.hid (Q.out.after hb)
  clear hb
  clear p0 p1 p2 p3 p4 f0 f1 f2 f3 f4 f5 z0 z1 z2 z3 z4 z5 k1 k2
  obtain ⟨p0, p1, p2, p3, p4⟩ := Q.out.2.1.cells
  obtain ⟨f0, f1, f2, f3, f4, f5⟩ := Q.out.2.2.free
  obtain ⟨z0, z1, z2, z3, z4, z5⟩ := Q.out.2.2.cells
  have k1 := Q.out.2.1.lt
  have k2 := Q.out.2.2.lt
  go_wp2_with fail
  refine (D.out _).mono ?_
  rintro e w27 ⟨rfl, hb⟩
  replace Q := Lib.hid (Q.out.after hb)
  clear hb
  clear p0 p1 p2 p3 p4 f0 f1 f2 f3 f4 f5 z0 z1 z2 z3 z4 z5 k1 k2
  obtain ⟨p0, p1, p2, p3, p4⟩ := Q.out.2.1.cells
  obtain ⟨f0, f1, f2, f3, f4, f5⟩ := Q.out.2.2.free
  obtain ⟨z0, z1, z2, z3, z4, z5⟩ := Q.out.2.2.cells
  have k1 := Q.out.2.1.lt
  have k2 := Q.out.2.2.lt
  have BB := Lib.hid (Q.out.set v).1
  go_wp2_with fail
  exact bodyPost_ret (v := .tuple #[whV v, .int .u8 f]) (by simp [results, Tryz.results101, go_sem, z0, z1, z2, z3, z4, z5, k2, Wh.zero]) rfl ⟨rfl, BB.out⟩
set_option maxRecDepth 100000 in
set_option maxHeartbeats 2000000 in
theorem c7_told7_arith (x : Ins) (v : Wh) (f : Int) (h : Int) (hh : h ≤ 192) (w : World)
    (C : Hid (∀ w, Calls Tryz.prog 144 #[iV x] w (Gives (.int .u8 7) w)))
    (K : Hid (∀ w, Calls Tryz.prog 149 #[iV x] w (Gives (.int .u8 h) w)))
    (D : Hid (∀ w, Calls Tryz.prog 151 #[iV x] w (Gives (.tuple #[whV v, .int .u8 f]) w))) :
    Calls Tryz.prog 101 #[iV x] w (Gives (.tuple #[whV v, .int .u8 f]) w) := by
  have Q := Lib.hid (IDuo.new x Wh.zero w)
  go_enter Tryz.func101, Tryz.ntmps101
  go_wp2_with fail
  refine (C.out _).mono ?_
  rintro e w28 ⟨rfl, hb⟩
  replace Q := Lib.hid (Q.out.after hb)
  clear hb
  obtain ⟨p0, p1, p2, p3, p4⟩ := Q.out.2.1.cells
  obtain ⟨f0, f1, f2, f3, f4, f5⟩ := Q.out.2.2.free
  obtain ⟨z0, z1, z2, z3, z4, z5⟩ := Q.out.2.2.cells
  have k1 := Q.out.2.1.lt
  have k2 := Q.out.2.2.lt
  go_wp2_with fail
  refine (K.out _).mono ?_
  rintro e w29 ⟨rfl, hb⟩
  replace Q := Lib.hid (Q.out.after hb)
  clear hb
  clear p0 p1 p2 p3 p4 f0 f1 f2 f3 f4 f5 z0 z1 z2 z3 z4 z5 k1 k2
  obtain ⟨p0, p1, p2, p3, p4⟩ := Q.out.2.1.cells
  obtain ⟨f0, f1, f2, f3, f4, f5⟩ := Q.out.2.2.free
  obtain ⟨z0, z1, z2, z3, z4, z5⟩ := Q.out.2.2.cells
  have k1 := Q.out.2.1.lt
  have k2 := Q.out.2.2.lt
  go_wp2_with fail
  refine (D.out _).mono ?_
  rintro e w30 ⟨rfl, hb⟩
  replace Q := Lib.hid (Q.out.after hb)
  clear hb
  clear p0 p1 p2 p3 p4 f0 f1 f2 f3 f4 f5 z0 z1 z2 z3 z4 z5 k1 k2
  obtain ⟨p0, p1, p2, p3, p4⟩ := Q.out.2.1.cells
  obtain ⟨f0, f1, f2, f3, f4, f5⟩ := Q.out.2.2.free
  obtain ⟨z0, z1, z2, z3, z4, z5⟩ := Q.out.2.2.cells
  have k1 := Q.out.2.1.lt
  have k2 := Q.out.2.2.lt
  have BB := Lib.hid (Q.out.set v).1
  go_wp2_with fail
  exact bodyPost_ret (v := .tuple #[whV v, .int .u8 f]) (by simp [results, Tryz.results101, go_sem, z0, z1, z2, z3, z4, z5, k2, Wh.zero]) rfl ⟨rfl, BB.out⟩
set_option maxRecDepth 100000 in
set_option maxHeartbeats 2000000 in
theorem c7_told5_alone (x : Ins) (v : Wh) (f : Int) (hn : (v.kind != 0) = true) (w : World)
    (C : Hid (∀ w, Calls Tryz.prog 144 #[iV x] w (Gives (.int .u8 5) w)))
    (K : Hid (∀ w, Calls Tryz.prog 152 #[iV x] w (Gives (.tuple #[whV v, .int .u8 f]) w))) :
    Calls Tryz.prog 101 #[iV x] w (Gives (.tuple #[whV v, .int .u8 f]) w) := by
  have Q := Lib.hid (IDuo.new x Wh.zero w)
  go_enter Tryz.func101, Tryz.ntmps101
  go_wp2_with fail
  refine (C.out _).mono ?_
  rintro e w31 ⟨rfl, hb⟩
  replace Q := Lib.hid (Q.out.after hb)
  clear hb
  obtain ⟨p0, p1, p2, p3, p4⟩ := Q.out.2.1.cells
  obtain ⟨f0, f1, f2, f3, f4, f5⟩ := Q.out.2.2.free
  obtain ⟨z0, z1, z2, z3, z4, z5⟩ := Q.out.2.2.cells
  have k1 := Q.out.2.1.lt
  have k2 := Q.out.2.2.lt
  go_wp2_with fail
  refine (K.out _).mono ?_
  rintro e w32 ⟨rfl, hb⟩
  replace Q := Lib.hid (Q.out.after hb)
  clear hb
  clear p0 p1 p2 p3 p4 f0 f1 f2 f3 f4 f5 z0 z1 z2 z3 z4 z5 k1 k2
  obtain ⟨p0, p1, p2, p3, p4⟩ := Q.out.2.1.cells
  obtain ⟨f0, f1, f2, f3, f4, f5⟩ := Q.out.2.2.free
  obtain ⟨z0, z1, z2, z3, z4, z5⟩ := Q.out.2.2.cells
  have k1 := Q.out.2.1.lt
  have k2 := Q.out.2.2.lt
  have BB := Lib.hid (below_alloc (Q.out.set v).1 (.cells (whCells v) 96))
  go_wp2_with fail
  exact bodyPost_ret (v := .tuple #[whV v, .int .u8 f]) (by simp [results, Tryz.results101, go_sem, z0, z1, z2, z3, z4, z5, k2, Wh.zero]) rfl ⟨rfl, BB.out⟩
set_option maxRecDepth 100000 in
set_option maxHeartbeats 2000000 in
theorem c7_told5_branch (x : Ins) (v : Wh) (f : Int) (u : Wh) (g : Int) (hn : (u.kind != 0) = false) (w : World)
    (C : Hid (∀ w, Calls Tryz.prog 144 #[iV x] w (Gives (.int .u8 5) w)))
    (K : Hid (∀ w, Calls Tryz.prog 152 #[iV x] w (Gives (.tuple #[whV u, .int .u8 g]) w)))
    (D : Hid (∀ w, Calls Tryz.prog 153 #[iV x] w (Gives (.tuple #[whV v, .int .u8 f]) w))) :
    Calls Tryz.prog 101 #[iV x] w (Gives (.tuple #[whV v, .int .u8 f]) w) := by
  have Q := Lib.hid (IDuo.new x Wh.zero w)
  go_enter Tryz.func101, Tryz.ntmps101
  go_wp2_with fail
  refine (C.out _).mono ?_
  rintro e w33 ⟨rfl, hb⟩
  replace Q := Lib.hid (Q.out.after hb)
  clear hb
  obtain ⟨p0, p1, p2, p3, p4⟩ := Q.out.2.1.cells
  obtain ⟨f0, f1, f2, f3, f4, f5⟩ := Q.out.2.2.free
  obtain ⟨z0, z1, z2, z3, z4, z5⟩ := Q.out.2.2.cells
  have k1 := Q.out.2.1.lt
  have k2 := Q.out.2.2.lt
  go_wp2_with fail
  refine (K.out _).mono ?_
  rintro e w34 ⟨rfl, hb⟩
  replace Q := Lib.hid (Q.out.after hb)
  clear hb
  clear p0 p1 p2 p3 p4 f0 f1 f2 f3 f4 f5 z0 z1 z2 z3 z4 z5 k1 k2
  obtain ⟨p0, p1, p2, p3, p4⟩ := Q.out.2.1.cells
  obtain ⟨f0, f1, f2, f3, f4, f5⟩ := Q.out.2.2.free
  obtain ⟨z0, z1, z2, z3, z4, z5⟩ := Q.out.2.2.cells
  have k1 := Q.out.2.1.lt
  have k2 := Q.out.2.2.lt
  replace Q := Lib.hid (Q.out.after (below_alloc (Below.refl _ _) (.cells (whCells u) 96)))
  go_wp2_with fail
  refine (D.out _).mono ?_
  rintro e w35 ⟨rfl, hb⟩
  replace Q := Lib.hid (Q.out.after hb)
  clear hb
  clear p0 p1 p2 p3 p4 f0 f1 f2 f3 f4 f5 z0 z1 z2 z3 z4 z5 k1 k2
  obtain ⟨p0, p1, p2, p3, p4⟩ := Q.out.2.1.cells
  obtain ⟨f0, f1, f2, f3, f4, f5⟩ := Q.out.2.2.free
  obtain ⟨z0, z1, z2, z3, z4, z5⟩ := Q.out.2.2.cells
  have k1 := Q.out.2.1.lt
  have k2 := Q.out.2.2.lt
  have BB := Lib.hid (Q.out.set v).1
  go_wp2_with fail
  exact bodyPost_ret (v := .tuple #[whV v, .int .u8 f]) (by simp [results, Tryz.results101, go_sem, z0, z1, z2, z3, z4, z5, k2, Wh.zero]) rfl ⟨rfl, BB.out⟩
set_option maxRecDepth 100000 in
set_option maxHeartbeats 2000000 in
theorem c7_told6_alone (x : Ins) (v : Wh) (f : Int) (hn : (v.kind != 0) = true) (w : World)
    (C : Hid (∀ w, Calls Tryz.prog 144 #[iV x] w (Gives (.int .u8 6) w)))
    (K : Hid (∀ w, Calls Tryz.prog 152 #[iV x] w (Gives (.tuple #[whV v, .int .u8 f]) w))) :
    Calls Tryz.prog 101 #[iV x] w (Gives (.tuple #[whV v, .int .u8 f]) w) := by
  have Q := Lib.hid (IDuo.new x Wh.zero w)
  go_enter Tryz.func101, Tryz.ntmps101
  go_wp2_with fail
  refine (C.out _).mono ?_
  rintro e w36 ⟨rfl, hb⟩
  replace Q := Lib.hid (Q.out.after hb)
  clear hb
  obtain ⟨p0, p1, p2, p3, p4⟩ := Q.out.2.1.cells
  obtain ⟨f0, f1, f2, f3, f4, f5⟩ := Q.out.2.2.free
  obtain ⟨z0, z1, z2, z3, z4, z5⟩ := Q.out.2.2.cells
  have k1 := Q.out.2.1.lt
  have k2 := Q.out.2.2.lt
  go_wp2_with fail
  refine (K.out _).mono ?_
  rintro e w37 ⟨rfl, hb⟩
  replace Q := Lib.hid (Q.out.after hb)
  clear hb
  clear p0 p1 p2 p3 p4 f0 f1 f2 f3 f4 f5 z0 z1 z2 z3 z4 z5 k1 k2
  obtain ⟨p0, p1, p2, p3, p4⟩ := Q.out.2.1.cells
  obtain ⟨f0, f1, f2, f3, f4, f5⟩ := Q.out.2.2.free
  obtain ⟨z0, z1, z2, z3, z4, z5⟩ := Q.out.2.2.cells
  have k1 := Q.out.2.1.lt
  have k2 := Q.out.2.2.lt
  have BB := Lib.hid (below_alloc (Q.out.set v).1 (.cells (whCells v) 96))
  go_wp2_with fail
  exact bodyPost_ret (v := .tuple #[whV v, .int .u8 f]) (by simp [results, Tryz.results101, go_sem, z0, z1, z2, z3, z4, z5, k2, Wh.zero]) rfl ⟨rfl, BB.out⟩
set_option maxRecDepth 100000 in
set_option maxHeartbeats 2000000 in
theorem c7_told6_branch (x : Ins) (v : Wh) (f : Int) (u : Wh) (g : Int) (hn : (u.kind != 0) = false) (w : World)
    (C : Hid (∀ w, Calls Tryz.prog 144 #[iV x] w (Gives (.int .u8 6) w)))
    (K : Hid (∀ w, Calls Tryz.prog 152 #[iV x] w (Gives (.tuple #[whV u, .int .u8 g]) w)))
    (D : Hid (∀ w, Calls Tryz.prog 153 #[iV x] w (Gives (.tuple #[whV v, .int .u8 f]) w))) :
    Calls Tryz.prog 101 #[iV x] w (Gives (.tuple #[whV v, .int .u8 f]) w) := by
  have Q := Lib.hid (IDuo.new x Wh.zero w)
  go_enter Tryz.func101, Tryz.ntmps101
  go_wp2_with fail
  refine (C.out _).mono ?_
  rintro e w38 ⟨rfl, hb⟩
  replace Q := Lib.hid (Q.out.after hb)
  clear hb
  obtain ⟨p0, p1, p2, p3, p4⟩ := Q.out.2.1.cells
  obtain ⟨f0, f1, f2, f3, f4, f5⟩ := Q.out.2.2.free
  obtain ⟨z0, z1, z2, z3, z4, z5⟩ := Q.out.2.2.cells
  have k1 := Q.out.2.1.lt
  have k2 := Q.out.2.2.lt
  go_wp2_with fail
  refine (K.out _).mono ?_
  rintro e w39 ⟨rfl, hb⟩
  replace Q := Lib.hid (Q.out.after hb)
  clear hb
  clear p0 p1 p2 p3 p4 f0 f1 f2 f3 f4 f5 z0 z1 z2 z3 z4 z5 k1 k2
  obtain ⟨p0, p1, p2, p3, p4⟩ := Q.out.2.1.cells
  obtain ⟨f0, f1, f2, f3, f4, f5⟩ := Q.out.2.2.free
  obtain ⟨z0, z1, z2, z3, z4, z5⟩ := Q.out.2.2.cells
  have k1 := Q.out.2.1.lt
  have k2 := Q.out.2.2.lt
  replace Q := Lib.hid (Q.out.after (below_alloc (Below.refl _ _) (.cells (whCells u) 96)))
  go_wp2_with fail
  refine (D.out _).mono ?_
  rintro e w40 ⟨rfl, hb⟩
  replace Q := Lib.hid (Q.out.after hb)
  clear hb
  clear p0 p1 p2 p3 p4 f0 f1 f2 f3 f4 f5 z0 z1 z2 z3 z4 z5 k1 k2
  obtain ⟨p0, p1, p2, p3, p4⟩ := Q.out.2.1.cells
  obtain ⟨f0, f1, f2, f3, f4, f5⟩ := Q.out.2.2.free
  obtain ⟨z0, z1, z2, z3, z4, z5⟩ := Q.out.2.2.cells
  have k1 := Q.out.2.1.lt
  have k2 := Q.out.2.2.lt
  have BB := Lib.hid (Q.out.set v).1
  go_wp2_with fail
  exact bodyPost_ret (v := .tuple #[whV v, .int .u8 f]) (by simp [results, Tryz.results101, go_sem, z0, z1, z2, z3, z4, z5, k2, Wh.zero]) rfl ⟨rfl, BB.out⟩
theorem c7_told (x : Ins) (hx : x.ok) (w : World) : Calls Tryz.prog 101 #[iV x] w (Gives (.tuple #[whV (tTold x).1, .int .u8 (tTold x).2]) w) := by
  have C := Lib.hid (c7_class x hx)
  have K := Lib.hid (c7_high x hx)
  unfold tTold
  have h : x.op % 8 = 0 ∨ x.op % 8 = 1 ∨ x.op % 8 = 2 ∨ x.op % 8 = 3 ∨ x.op % 8 = 4 ∨ x.op % 8 = 7 ∨ x.op % 8 = 5 ∨ x.op % 8 = 6 := by omega
  rcases h with h | h | h | h | h | h | h | h
  all_goals
    rw [h] at C ⊢
    clear h
  · exact c7_told0 x _ _ w C (Lib.hid (c7_double x hx))
  · exact c7_told1 x _ _ w C (Lib.hid (c7_load x hx))
  · exact c7_told2 x _ _ w C (Lib.hid (c7_store x hx))
  · exact c7_told3 x _ _ w C (Lib.hid (c7_put x hx))
  · by_cases hh : 192 < x.op / 16 * 16
    · rw [decide_eq_true hh]
      exact c7_told4_swaps x _ _ _ hh w C K (Lib.hid (c7_swaps x hx))
    · rw [decide_eq_false hh]
      exact c7_told4_arith x _ _ _ (by omega) w C K (Lib.hid (c7_arith x hx))
  · by_cases hh : 192 < x.op / 16 * 16
    · rw [decide_eq_true hh]
      exact c7_told7_swaps x _ _ _ hh w C K (Lib.hid (c7_swaps x hx))
    · rw [decide_eq_false hh]
      exact c7_told7_arith x _ _ _ (by omega) w C K (Lib.hid (c7_arith x hx))
  · cases hn : ((tAlone x).1.kind != 0)
    · exact c7_told5_branch x _ _ _ _ hn w C (Lib.hid (c7_alone x hx)) (Lib.hid (c7_branch x hx))
    · exact c7_told5_alone x _ _ hn w C (Lib.hid (c7_alone x hx))
  · cases hn : ((tAlone x).1.kind != 0)
    · exact c7_told6_branch x _ _ _ _ hn w C (Lib.hid (c7_alone x hx)) (Lib.hid (c7_branch x hx))
    · exact c7_told6_alone x _ _ hn w C (Lib.hid (c7_alone x hx))
def FB (p : Wh × Int) : Prop := 0 ≤ p.2 ∧ p.2 ≤ 255
theorem fb_ite {c : Prop} [Decidable c] {a b : Wh × Int} (ha : FB a) (hb : FB b) : FB (if c then a else b) := by
  split
  · exact ha
  · exact hb
theorem fb_num (v : Wh) (n : Int) (h1 : 0 ≤ n) (h2 : n ≤ 255) : FB (v, n) := ⟨h1, h2⟩
theorem secF_rng (x : Ins) : 4 ≤ secF x ∧ secF x ≤ 16 := by unfold secF; split <;> simp
theorem tTold_rng (x : Ins) : 0 ≤ (tTold x).2 ∧ (tTold x).2 ≤ 255 := by
  obtain ⟨s1, s2⟩ := secF_rng x
  show FB (tTold x)
  unfold tTold tDouble tLoad tStore tPutI tSwaps tArith tAlone tBranch
  repeat' (apply fb_ite)
  all_goals exact fb_num _ _ (by omega) (by omega)
set_option maxRecDepth 100000 in
set_option maxHeartbeats 2000000 in
theorem c7_What_a (x : Ins) (v : Wh) (f : Int) (b c : Bool) (hk : (v.kind == 0) = true) (w : World)
    (C : Hid (∀ w, Calls Tryz.prog 101 #[iV x] w (Gives (.tuple #[whV v, .int .u8 f]) w)))
    (B : Hid (∀ w, Calls Tryz.prog 102 #[iV x, .int .u8 f] w (Gives (.bool b) w)))
    (D : Hid (∀ w, Calls Tryz.prog 103 #[iV x, .int .u8 f] w (Gives (.bool c) w))) :
    Calls Tryz.prog 64 #[iV x] w (Gives (.tuple #[whV Wh.zero, .bool false]) w) := by
  have Q := Lib.hid (IDuo.new x Wh.zero w)
  go_enter Tryz.func64, Tryz.ntmps64
  go_wp2_with fail
  refine (C.out _).mono ?_
  rintro e w41 ⟨rfl, hb⟩
  replace Q := Lib.hid (Q.out.after hb)
  clear hb
  obtain ⟨p0, p1, p2, p3, p4⟩ := Q.out.2.1.cells
  obtain ⟨f0, f1, f2, f3, f4, f5⟩ := Q.out.2.2.free
  obtain ⟨z0, z1, z2, z3, z4, z5⟩ := Q.out.2.2.cells
  have k1 := Q.out.2.1.lt
  have k2 := Q.out.2.2.lt
  have VB := Lib.hid (whB.new w41 v rfl)
  have KV := k2
  have HV : w41.heap.size = w41.heap.size := rfl
  have BA := Lib.hid (below_alloc (Q.out.set Wh.zero).1 (.cells (whCells v) 96))
  replace Q := Lib.hid (Q.out.after (below_alloc (Below.refl _ _) (.cells (whCells v) 96)))
  have BB := BA
  go_wp2_with fail
  exact bodyPost_ret (v := .tuple #[whV Wh.zero, .bool false]) (by simp [results, Tryz.results64, go_sem, z0, z1, z2, z3, z4, z5, k2, Wh.zero]) rfl ⟨rfl, BB.out⟩
set_option maxRecDepth 100000 in
set_option maxHeartbeats 2000000 in
theorem c7_What_b (x : Ins) (v : Wh) (f : Int) (b c : Bool) (hk : (v.kind == 0) = false) (hb : b = false) (w : World)
    (C : Hid (∀ w, Calls Tryz.prog 101 #[iV x] w (Gives (.tuple #[whV v, .int .u8 f]) w)))
    (B : Hid (∀ w, Calls Tryz.prog 102 #[iV x, .int .u8 f] w (Gives (.bool b) w)))
    (D : Hid (∀ w, Calls Tryz.prog 103 #[iV x, .int .u8 f] w (Gives (.bool c) w))) :
    Calls Tryz.prog 64 #[iV x] w (Gives (.tuple #[whV Wh.zero, .bool false]) w) := by
  subst hb
  have Q := Lib.hid (IDuo.new x Wh.zero w)
  go_enter Tryz.func64, Tryz.ntmps64
  go_wp2_with fail
  refine (C.out _).mono ?_
  rintro e w42 ⟨rfl, hb⟩
  replace Q := Lib.hid (Q.out.after hb)
  clear hb
  obtain ⟨p0, p1, p2, p3, p4⟩ := Q.out.2.1.cells
  obtain ⟨f0, f1, f2, f3, f4, f5⟩ := Q.out.2.2.free
  obtain ⟨z0, z1, z2, z3, z4, z5⟩ := Q.out.2.2.cells
  have k1 := Q.out.2.1.lt
  have k2 := Q.out.2.2.lt
  have VB := Lib.hid (whB.new w42 v rfl)
  have KV := k2
  have HV : w42.heap.size = w42.heap.size := rfl
  replace Q := Lib.hid (Q.out.after (below_alloc (Below.refl _ _) (.cells (whCells v) 96)))
  go_wp2_with fail
  refine (B.out _).mono ?_
  rintro e w43 ⟨rfl, hb⟩
  replace Q := Lib.hid (Q.out.after hb)
  replace VB := Lib.hid (VB.out.after hb)
  clear hb
  clear p0 p1 p2 p3 p4 f0 f1 f2 f3 f4 f5 z0 z1 z2 z3 z4 z5 k1 k2
  obtain ⟨p0, p1, p2, p3, p4⟩ := Q.out.2.1.cells
  obtain ⟨f0, f1, f2, f3, f4, f5⟩ := Q.out.2.2.free
  obtain ⟨z0, z1, z2, z3, z4, z5⟩ := Q.out.2.2.cells
  have k1 := Q.out.2.1.lt
  have k2 := Q.out.2.2.lt
  try clear v0 v1 v2 v3 v4 v5
  obtain ⟨v0, v1, v2, v3, v4, v5⟩ := VB.out.cells
  have BB := Lib.hid (Q.out.set Wh.zero).1
  go_wp2_with fail
  exact bodyPost_ret (v := .tuple #[whV Wh.zero, .bool false]) (by simp [results, Tryz.results64, go_sem, z0, z1, z2, z3, z4, z5, k2, Wh.zero]) rfl ⟨rfl, BB.out⟩
set_option maxRecDepth 100000 in
set_option maxHeartbeats 2000000 in
theorem c7_What_c (x : Ins) (v : Wh) (f : Int) (b c : Bool) (hk : (v.kind == 0) = false) (hb : b = true) (hc : c = false) (w : World)
    (C : Hid (∀ w, Calls Tryz.prog 101 #[iV x] w (Gives (.tuple #[whV v, .int .u8 f]) w)))
    (B : Hid (∀ w, Calls Tryz.prog 102 #[iV x, .int .u8 f] w (Gives (.bool b) w)))
    (D : Hid (∀ w, Calls Tryz.prog 103 #[iV x, .int .u8 f] w (Gives (.bool c) w))) :
    Calls Tryz.prog 64 #[iV x] w (Gives (.tuple #[whV Wh.zero, .bool false]) w) := by
  subst hb
  subst hc
  have Q := Lib.hid (IDuo.new x Wh.zero w)
  go_enter Tryz.func64, Tryz.ntmps64
  go_wp2_with fail
  refine (C.out _).mono ?_
  rintro e w44 ⟨rfl, hb⟩
  replace Q := Lib.hid (Q.out.after hb)
  clear hb
  obtain ⟨p0, p1, p2, p3, p4⟩ := Q.out.2.1.cells
  obtain ⟨f0, f1, f2, f3, f4, f5⟩ := Q.out.2.2.free
  obtain ⟨z0, z1, z2, z3, z4, z5⟩ := Q.out.2.2.cells
  have k1 := Q.out.2.1.lt
  have k2 := Q.out.2.2.lt
  have VB := Lib.hid (whB.new w44 v rfl)
  have KV := k2
  have HV : w44.heap.size = w44.heap.size := rfl
  replace Q := Lib.hid (Q.out.after (below_alloc (Below.refl _ _) (.cells (whCells v) 96)))
  go_wp2_with fail
  refine (B.out _).mono ?_
  rintro e w45 ⟨rfl, hb⟩
  replace Q := Lib.hid (Q.out.after hb)
  replace VB := Lib.hid (VB.out.after hb)
  clear hb
  clear p0 p1 p2 p3 p4 f0 f1 f2 f3 f4 f5 z0 z1 z2 z3 z4 z5 k1 k2
  obtain ⟨p0, p1, p2, p3, p4⟩ := Q.out.2.1.cells
  obtain ⟨f0, f1, f2, f3, f4, f5⟩ := Q.out.2.2.free
  obtain ⟨z0, z1, z2, z3, z4, z5⟩ := Q.out.2.2.cells
  have k1 := Q.out.2.1.lt
  have k2 := Q.out.2.2.lt
  try clear v0 v1 v2 v3 v4 v5
  obtain ⟨v0, v1, v2, v3, v4, v5⟩ := VB.out.cells
  go_wp2_with fail
  refine (D.out _).mono ?_
  rintro e w46 ⟨rfl, hb⟩
  replace Q := Lib.hid (Q.out.after hb)
  replace VB := Lib.hid (VB.out.after hb)
  clear hb
  clear p0 p1 p2 p3 p4 f0 f1 f2 f3 f4 f5 z0 z1 z2 z3 z4 z5 k1 k2
  obtain ⟨p0, p1, p2, p3, p4⟩ := Q.out.2.1.cells
  obtain ⟨f0, f1, f2, f3, f4, f5⟩ := Q.out.2.2.free
  obtain ⟨z0, z1, z2, z3, z4, z5⟩ := Q.out.2.2.cells
  have k1 := Q.out.2.1.lt
  have k2 := Q.out.2.2.lt
  try clear v0 v1 v2 v3 v4 v5
  obtain ⟨v0, v1, v2, v3, v4, v5⟩ := VB.out.cells
  have BB := Lib.hid (Q.out.set Wh.zero).1
  go_wp2_with fail
  exact bodyPost_ret (v := .tuple #[whV Wh.zero, .bool false]) (by simp [results, Tryz.results64, go_sem, z0, z1, z2, z3, z4, z5, k2, Wh.zero]) rfl ⟨rfl, BB.out⟩
set_option maxRecDepth 100000 in
set_option maxHeartbeats 2000000 in
theorem c7_What_d (x : Ins) (v : Wh) (f : Int) (b c : Bool) (hk : (v.kind == 0) = false) (hb : b = true) (hc : c = true) (w : World)
    (C : Hid (∀ w, Calls Tryz.prog 101 #[iV x] w (Gives (.tuple #[whV v, .int .u8 f]) w)))
    (B : Hid (∀ w, Calls Tryz.prog 102 #[iV x, .int .u8 f] w (Gives (.bool b) w)))
    (D : Hid (∀ w, Calls Tryz.prog 103 #[iV x, .int .u8 f] w (Gives (.bool c) w))) :
    Calls Tryz.prog 64 #[iV x] w (Gives (.tuple #[whV v, .bool true]) w) := by
  subst hb
  subst hc
  have Q := Lib.hid (IDuo.new x Wh.zero w)
  go_enter Tryz.func64, Tryz.ntmps64
  go_wp2_with fail
  refine (C.out _).mono ?_
  rintro e w47 ⟨rfl, hb⟩
  replace Q := Lib.hid (Q.out.after hb)
  clear hb
  obtain ⟨p0, p1, p2, p3, p4⟩ := Q.out.2.1.cells
  obtain ⟨f0, f1, f2, f3, f4, f5⟩ := Q.out.2.2.free
  obtain ⟨z0, z1, z2, z3, z4, z5⟩ := Q.out.2.2.cells
  have k1 := Q.out.2.1.lt
  have k2 := Q.out.2.2.lt
  have VB := Lib.hid (whB.new w47 v rfl)
  have KV := k2
  have HV : w47.heap.size = w47.heap.size := rfl
  replace Q := Lib.hid (Q.out.after (below_alloc (Below.refl _ _) (.cells (whCells v) 96)))
  go_wp2_with fail
  refine (B.out _).mono ?_
  rintro e w48 ⟨rfl, hb⟩
  replace Q := Lib.hid (Q.out.after hb)
  replace VB := Lib.hid (VB.out.after hb)
  clear hb
  clear p0 p1 p2 p3 p4 f0 f1 f2 f3 f4 f5 z0 z1 z2 z3 z4 z5 k1 k2
  obtain ⟨p0, p1, p2, p3, p4⟩ := Q.out.2.1.cells
  obtain ⟨f0, f1, f2, f3, f4, f5⟩ := Q.out.2.2.free
  obtain ⟨z0, z1, z2, z3, z4, z5⟩ := Q.out.2.2.cells
  have k1 := Q.out.2.1.lt
  have k2 := Q.out.2.2.lt
  try clear v0 v1 v2 v3 v4 v5
  obtain ⟨v0, v1, v2, v3, v4, v5⟩ := VB.out.cells
  go_wp2_with fail
  refine (D.out _).mono ?_
  rintro e w49 ⟨rfl, hb⟩
  replace Q := Lib.hid (Q.out.after hb)
  replace VB := Lib.hid (VB.out.after hb)
  clear hb
  clear p0 p1 p2 p3 p4 f0 f1 f2 f3 f4 f5 z0 z1 z2 z3 z4 z5 k1 k2
  obtain ⟨p0, p1, p2, p3, p4⟩ := Q.out.2.1.cells
  obtain ⟨f0, f1, f2, f3, f4, f5⟩ := Q.out.2.2.free
  obtain ⟨z0, z1, z2, z3, z4, z5⟩ := Q.out.2.2.cells
  have k1 := Q.out.2.1.lt
  have k2 := Q.out.2.2.lt
  try clear v0 v1 v2 v3 v4 v5
  obtain ⟨v0, v1, v2, v3, v4, v5⟩ := VB.out.cells
  have BB := Lib.hid (Q.out.set v).1
  go_wp2_with fail
  exact bodyPost_ret (v := .tuple #[whV v, .bool true]) (by simp [results, Tryz.results64, go_sem, z0, z1, z2, z3, z4, z5, k2, Wh.zero]) rfl ⟨rfl, BB.out⟩
theorem c7_What (x : Ins) (hx : x.ok) (w : World) : Calls Tryz.prog 64 #[iV x] w (Gives (.tuple #[whV (wOf x), .bool (wOk x)]) w) := by
  obtain ⟨e1, e2⟩ := told_same x hx
  obtain ⟨f1, f2⟩ := tTold_rng x
  have C := Lib.hid (c7_told x hx)
  have B := Lib.hid (c7_only x _ f1 f2)
  have D := Lib.hid (c7_registers x _ f1 f2)
  unfold wOf
  rw [← e1] at e2 ⊢
  clear e1
  unfold tOk at *
  generalize tOnly x (tTold x).2 = b at *
  generalize tRegs x (tTold x).2 = c at *
  generalize (tTold x).2 = f at *
  generalize (tTold x).1 = v at *
  cases hk : (v.kind == 0)
  rotate_left 1
  · rw [show (v.kind != 0) = false from by unfold bne; rw [hk]; rfl, Bool.false_and, if_neg Bool.false_ne_true]
    exact c7_What_a x v f b c hk w C B D
  have hk' : (v.kind != 0) = true := by unfold bne; rw [hk]; rfl
  rw [hk'] at e2 ⊢
  cases b
  · exact c7_What_b x v f _ c hk rfl w C B D
  cases c
  · exact c7_What_c x v f _ _ hk rfl rfl w C B D
  · rw [Bool.and_self, Bool.and_self, if_pos rfl, ← e2 rfl]
    exact c7_What_d x v f _ _ hk rfl rfl w C B D
end Go.Proofs.YtlbhffdpklbhfaaGreat
