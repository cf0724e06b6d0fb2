/-
  Texts, one behind the other: Code3p.
  Conditions: those that each theorem states.
-/
import Derived.Deep.RegionHeld3
import Derived.Deep.DeepCutAuto
import Derived.Deep.CutBlock
import Derived.Test.YtlbhffdpklbhfaaGreatPz18
namespace Go.Proofs.YtlbhffdpklbhfaaGreat
open Go.RowKit
set_option maxRecDepth 100000
set_option linter.unusedVariables false
set_option linter.unusedSimpArgs false
set_option maxRecDepth 100000 in
set_option maxHeartbeats 1000000 in
theorem c7_put_a (x : Ins) (s m : Int) (b : Bool) (e1 : (m == 96) = true)
    (C1 : Hid (∀ w, Calls Tryz.prog 177 #[iV x] w (Gives (.int .i64 s) w)))
    (C2 : Hid (∀ w, Calls Tryz.prog 178 #[iV x] w (Gives (.int .u8 m) w)))
    (C3 : Hid (∀ w, Calls Tryz.prog 179 #[.int .i32 x.imm] w (Gives (.bool b) w))) (w : World) :
    Calls Tryz.prog 148 #[iV x] w (Gives (.tuple #[whV (⟨7, 0, false, true, false, s⟩ : Wh), .int .u8 14]) w) := by
  have P : Hid (IDuo x Wh.zero w ((w.alloc (.cells #[.int .u8 x.op, .int .u8 x.dst, .int .u8 x.src, .int .i16 x.off, .int .i32 x.imm] 63)).alloc (.cells #[.int .u8 0, .int .u8 0, .bool false, .bool false, .bool false, .int .i64 0] 96))) := Lib.hid (IDuo.new x Wh.zero w)
  go_enter Tryz.func148, Tryz.ntmps148
  go_upto_region 1 with fail
  go_cut [4] (fun sl wx => ∃ gb, sl = .pointer (some ⟨gb, 0, none⟩) ∧ w.heap.size + 1 < gb ∧ Hid (IDuo x Wh.zero w wx ∧ whB gb (⟨7, 0, false, true, false, s⟩ : Wh) wx))
  case first =>
    go_wp2_with fail
    refine (C1.out _).mono ?_
    rintro e w5 ⟨rfl, hb⟩
    replace P := Lib.hid (P.out.after hb)
    clear hb
    have k2 := P.out.2.2.lt
    go_wp2_with fail
    go_meet
    exact ⟨_, rfl, k2, Lib.hid ⟨P.out.after (below_alloc (Below.refl _ _) _), whB.new _ (⟨7, 0, false, true, false, s⟩ : Wh) rfl⟩⟩
  case rest =>
    clear P
    obtain ⟨gb, rfl, kg, Q⟩ := hcut
    obtain ⟨p0, p1, p2, p3, p4⟩ := Q.out.1.2.1.cells
    obtain ⟨f0, f1, f2, f3, f4, f5⟩ := Q.out.1.2.2.free
    obtain ⟨z0, z1, z2, z3, z4, z5⟩ := Q.out.1.2.2.cells
    obtain ⟨c0, c1, c2, c3, c4, c5⟩ := Q.out.2.cells
    have k1 := Q.out.1.2.1.lt
    have k2 := Q.out.1.2.2.lt
    have k3 := Q.out.2.lt
    go_wp2_with fail
    refine (C2.out _).mono ?_
    rintro e w8 ⟨rfl, hb⟩
    replace Q := Lib.hid (And.intro (Q.out.1.after hb) (Q.out.2.after hb))
    clear hb
    clear p0 p1 p2 p3 p4 f0 f1 f2 f3 f4 f5 z0 z1 z2 z3 z4 z5 c0 c1 c2 c3 c4 c5 k1 k2 k3
    obtain ⟨p0, p1, p2, p3, p4⟩ := Q.out.1.2.1.cells
    obtain ⟨f0, f1, f2, f3, f4, f5⟩ := Q.out.1.2.2.free
    obtain ⟨z0, z1, z2, z3, z4, z5⟩ := Q.out.1.2.2.cells
    obtain ⟨c0, c1, c2, c3, c4, c5⟩ := Q.out.2.cells
    have k1 := Q.out.1.2.1.lt
    have k2 := Q.out.1.2.2.lt
    have k3 := Q.out.2.lt
    have BB := Lib.hid (Q.out.1.set (⟨7, 0, false, true, false, s⟩ : Wh)).1
    go_wp2_with fail
    exact bodyPost_ret (v := .tuple #[whV (⟨7, 0, false, true, false, s⟩ : Wh), .int .u8 14]) (by simp [results, Tryz.results148, go_sem, z0, z1, z2, z3, z4, z5, k2, Wh.zero]) rfl ⟨rfl, BB.out⟩
set_option maxRecDepth 100000 in
set_option maxHeartbeats 1000000 in
theorem c7_put_b (x : Ins) (s m : Int) (b : Bool) (e1 : (m == 96) = false) (e2 : (m == 192) = false)
    (C1 : Hid (∀ w, Calls Tryz.prog 177 #[iV x] w (Gives (.int .i64 s) w)))
    (C2 : Hid (∀ w, Calls Tryz.prog 178 #[iV x] w (Gives (.int .u8 m) w)))
    (C3 : Hid (∀ w, Calls Tryz.prog 179 #[.int .i32 x.imm] w (Gives (.bool b) w))) (w : World) :
    Calls Tryz.prog 148 #[iV x] w (Gives (.tuple #[whV Wh.zero, .int .u8 0]) w) := by
  have P : Hid (IDuo x Wh.zero w ((w.alloc (.cells #[.int .u8 x.op, .int .u8 x.dst, .int .u8 x.src, .int .i16 x.off, .int .i32 x.imm] 63)).alloc (.cells #[.int .u8 0, .int .u8 0, .bool false, .bool false, .bool false, .int .i64 0] 96))) := Lib.hid (IDuo.new x Wh.zero w)
  go_enter Tryz.func148, Tryz.ntmps148
  go_upto_region 1 with fail
  go_cut [4] (fun sl wx => ∃ gb, sl = .pointer (some ⟨gb, 0, none⟩) ∧ w.heap.size + 1 < gb ∧ Hid (IDuo x Wh.zero w wx ∧ whB gb (⟨7, 0, false, true, false, s⟩ : Wh) wx))
  case first =>
    go_wp2_with fail
    refine (C1.out _).mono ?_
    rintro e w5 ⟨rfl, hb⟩
    replace P := Lib.hid (P.out.after hb)
    clear hb
    have k2 := P.out.2.2.lt
    go_wp2_with fail
    go_meet
    exact ⟨_, rfl, k2, Lib.hid ⟨P.out.after (below_alloc (Below.refl _ _) _), whB.new _ (⟨7, 0, false, true, false, s⟩ : Wh) rfl⟩⟩
  case rest =>
    clear P
    obtain ⟨gb, rfl, kg, Q⟩ := hcut
    obtain ⟨p0, p1, p2, p3, p4⟩ := Q.out.1.2.1.cells
    obtain ⟨f0, f1, f2, f3, f4, f5⟩ := Q.out.1.2.2.free
    obtain ⟨z0, z1, z2, z3, z4, z5⟩ := Q.out.1.2.2.cells
    obtain ⟨c0, c1, c2, c3, c4, c5⟩ := Q.out.2.cells
    have k1 := Q.out.1.2.1.lt
    have k2 := Q.out.1.2.2.lt
    have k3 := Q.out.2.lt
    go_wp2_with fail
    refine (C2.out _).mono ?_
    rintro e w8 ⟨rfl, hb⟩
    replace Q := Lib.hid (And.intro (Q.out.1.after hb) (Q.out.2.after hb))
    clear hb
    clear p0 p1 p2 p3 p4 f0 f1 f2 f3 f4 f5 z0 z1 z2 z3 z4 z5 c0 c1 c2 c3 c4 c5 k1 k2 k3
    obtain ⟨p0, p1, p2, p3, p4⟩ := Q.out.1.2.1.cells
    obtain ⟨f0, f1, f2, f3, f4, f5⟩ := Q.out.1.2.2.free
    obtain ⟨z0, z1, z2, z3, z4, z5⟩ := Q.out.1.2.2.cells
    obtain ⟨c0, c1, c2, c3, c4, c5⟩ := Q.out.2.cells
    have k1 := Q.out.1.2.1.lt
    have k2 := Q.out.1.2.2.lt
    have k3 := Q.out.2.lt
    go_wp2_with fail
    refine (C2.out _).mono ?_
    rintro e w8 ⟨rfl, hb⟩
    replace Q := Lib.hid (And.intro (Q.out.1.after hb) (Q.out.2.after hb))
    clear hb
    clear p0 p1 p2 p3 p4 f0 f1 f2 f3 f4 f5 z0 z1 z2 z3 z4 z5 c0 c1 c2 c3 c4 c5 k1 k2 k3
    obtain ⟨p0, p1, p2, p3, p4⟩ := Q.out.1.2.1.cells
    obtain ⟨f0, f1, f2, f3, f4, f5⟩ := Q.out.1.2.2.free
    obtain ⟨z0, z1, z2, z3, z4, z5⟩ := Q.out.1.2.2.cells
    obtain ⟨c0, c1, c2, c3, c4, c5⟩ := Q.out.2.cells
    have k1 := Q.out.1.2.1.lt
    have k2 := Q.out.1.2.2.lt
    have k3 := Q.out.2.lt
    have BB := Lib.hid (Q.out.1.set Wh.zero).1
    go_wp2_with fail
    exact bodyPost_ret (v := .tuple #[whV Wh.zero, .int .u8 0]) (by simp [results, Tryz.results148, go_sem, z0, z1, z2, z3, z4, z5, k2, Wh.zero]) rfl ⟨rfl, BB.out⟩
set_option maxRecDepth 100000 in
set_option maxHeartbeats 1000000 in
theorem c7_put_c (x : Ins) (s m : Int) (b : Bool) (e1 : (m == 96) = false) (e2 : (m == 192) = true) (e3 : s < 4)
    (C1 : Hid (∀ w, Calls Tryz.prog 177 #[iV x] w (Gives (.int .i64 s) w)))
    (C2 : Hid (∀ w, Calls Tryz.prog 178 #[iV x] w (Gives (.int .u8 m) w)))
    (C3 : Hid (∀ w, Calls Tryz.prog 179 #[.int .i32 x.imm] w (Gives (.bool b) w))) (w : World) :
    Calls Tryz.prog 148 #[iV x] w (Gives (.tuple #[whV Wh.zero, .int .u8 0]) w) := by
  have P : Hid (IDuo x Wh.zero w ((w.alloc (.cells #[.int .u8 x.op, .int .u8 x.dst, .int .u8 x.src, .int .i16 x.off, .int .i32 x.imm] 63)).alloc (.cells #[.int .u8 0, .int .u8 0, .bool false, .bool false, .bool false, .int .i64 0] 96))) := Lib.hid (IDuo.new x Wh.zero w)
  go_enter Tryz.func148, Tryz.ntmps148
  go_upto_region 1 with fail
  go_cut [4] (fun sl wx => ∃ gb, sl = .pointer (some ⟨gb, 0, none⟩) ∧ w.heap.size + 1 < gb ∧ Hid (IDuo x Wh.zero w wx ∧ whB gb (⟨7, 0, false, true, false, s⟩ : Wh) wx))
  case first =>
    go_wp2_with fail
    refine (C1.out _).mono ?_
    rintro e w5 ⟨rfl, hb⟩
    replace P := Lib.hid (P.out.after hb)
    clear hb
    have k2 := P.out.2.2.lt
    go_wp2_with fail
    go_meet
    exact ⟨_, rfl, k2, Lib.hid ⟨P.out.after (below_alloc (Below.refl _ _) _), whB.new _ (⟨7, 0, false, true, false, s⟩ : Wh) rfl⟩⟩
  case rest =>
    clear P
    obtain ⟨gb, rfl, kg, Q⟩ := hcut
    obtain ⟨p0, p1, p2, p3, p4⟩ := Q.out.1.2.1.cells
    obtain ⟨f0, f1, f2, f3, f4, f5⟩ := Q.out.1.2.2.free
    obtain ⟨z0, z1, z2, z3, z4, z5⟩ := Q.out.1.2.2.cells
    obtain ⟨c0, c1, c2, c3, c4, c5⟩ := Q.out.2.cells
    have k1 := Q.out.1.2.1.lt
    have k2 := Q.out.1.2.2.lt
    have k3 := Q.out.2.lt
    go_wp2_with fail
    refine (C2.out _).mono ?_
    rintro e w8 ⟨rfl, hb⟩
    replace Q := Lib.hid (And.intro (Q.out.1.after hb) (Q.out.2.after hb))
    clear hb
    clear p0 p1 p2 p3 p4 f0 f1 f2 f3 f4 f5 z0 z1 z2 z3 z4 z5 c0 c1 c2 c3 c4 c5 k1 k2 k3
    obtain ⟨p0, p1, p2, p3, p4⟩ := Q.out.1.2.1.cells
    obtain ⟨f0, f1, f2, f3, f4, f5⟩ := Q.out.1.2.2.free
    obtain ⟨z0, z1, z2, z3, z4, z5⟩ := Q.out.1.2.2.cells
    obtain ⟨c0, c1, c2, c3, c4, c5⟩ := Q.out.2.cells
    have k1 := Q.out.1.2.1.lt
    have k2 := Q.out.1.2.2.lt
    have k3 := Q.out.2.lt
    go_wp2_with fail
    refine (C2.out _).mono ?_
    rintro e w8 ⟨rfl, hb⟩
    replace Q := Lib.hid (And.intro (Q.out.1.after hb) (Q.out.2.after hb))
    clear hb
    clear p0 p1 p2 p3 p4 f0 f1 f2 f3 f4 f5 z0 z1 z2 z3 z4 z5 c0 c1 c2 c3 c4 c5 k1 k2 k3
    obtain ⟨p0, p1, p2, p3, p4⟩ := Q.out.1.2.1.cells
    obtain ⟨f0, f1, f2, f3, f4, f5⟩ := Q.out.1.2.2.free
    obtain ⟨z0, z1, z2, z3, z4, z5⟩ := Q.out.1.2.2.cells
    obtain ⟨c0, c1, c2, c3, c4, c5⟩ := Q.out.2.cells
    have k1 := Q.out.1.2.1.lt
    have k2 := Q.out.1.2.2.lt
    have k3 := Q.out.2.lt
    have BB := Lib.hid (Q.out.1.set Wh.zero).1
    go_wp2_with fail
    exact bodyPost_ret (v := .tuple #[whV Wh.zero, .int .u8 0]) (by simp [results, Tryz.results148, go_sem, z0, z1, z2, z3, z4, z5, k2, Wh.zero]) rfl ⟨rfl, BB.out⟩
set_option maxRecDepth 100000 in
set_option maxHeartbeats 1000000 in
theorem c7_put_d (x : Ins) (s m : Int) (b : Bool) (e1 : (m == 96) = false) (e2 : (m == 192) = true) (e3 : 4 ≤ s) (e4 : b = false)
    (C1 : Hid (∀ w, Calls Tryz.prog 177 #[iV x] w (Gives (.int .i64 s) w)))
    (C2 : Hid (∀ w, Calls Tryz.prog 178 #[iV x] w (Gives (.int .u8 m) w)))
    (C3 : Hid (∀ w, Calls Tryz.prog 179 #[.int .i32 x.imm] w (Gives (.bool b) w))) (w : World) :
    Calls Tryz.prog 148 #[iV x] w (Gives (.tuple #[whV Wh.zero, .int .u8 0]) w) := by
  have P : Hid (IDuo x Wh.zero w ((w.alloc (.cells #[.int .u8 x.op, .int .u8 x.dst, .int .u8 x.src, .int .i16 x.off, .int .i32 x.imm] 63)).alloc (.cells #[.int .u8 0, .int .u8 0, .bool false, .bool false, .bool false, .int .i64 0] 96))) := Lib.hid (IDuo.new x Wh.zero w)
  go_enter Tryz.func148, Tryz.ntmps148
  subst e4
  go_upto_region 1 with fail
  go_cut [4] (fun sl wx => ∃ gb, sl = .pointer (some ⟨gb, 0, none⟩) ∧ w.heap.size + 1 < gb ∧ Hid (IDuo x Wh.zero w wx ∧ whB gb (⟨7, 0, false, true, false, s⟩ : Wh) wx))
  case first =>
    go_wp2_with fail
    refine (C1.out _).mono ?_
    rintro e w5 ⟨rfl, hb⟩
    replace P := Lib.hid (P.out.after hb)
    clear hb
    have k2 := P.out.2.2.lt
    go_wp2_with fail
    go_meet
    exact ⟨_, rfl, k2, Lib.hid ⟨P.out.after (below_alloc (Below.refl _ _) _), whB.new _ (⟨7, 0, false, true, false, s⟩ : Wh) rfl⟩⟩
  case rest =>
    clear P
    obtain ⟨gb, rfl, kg, Q⟩ := hcut
    obtain ⟨p0, p1, p2, p3, p4⟩ := Q.out.1.2.1.cells
    obtain ⟨f0, f1, f2, f3, f4, f5⟩ := Q.out.1.2.2.free
    obtain ⟨z0, z1, z2, z3, z4, z5⟩ := Q.out.1.2.2.cells
    obtain ⟨c0, c1, c2, c3, c4, c5⟩ := Q.out.2.cells
    have k1 := Q.out.1.2.1.lt
    have k2 := Q.out.1.2.2.lt
    have k3 := Q.out.2.lt
    go_wp2_with fail
    refine (C2.out _).mono ?_
    rintro e w8 ⟨rfl, hb⟩
    replace Q := Lib.hid (And.intro (Q.out.1.after hb) (Q.out.2.after hb))
    clear hb
    clear p0 p1 p2 p3 p4 f0 f1 f2 f3 f4 f5 z0 z1 z2 z3 z4 z5 c0 c1 c2 c3 c4 c5 k1 k2 k3
    obtain ⟨p0, p1, p2, p3, p4⟩ := Q.out.1.2.1.cells
    obtain ⟨f0, f1, f2, f3, f4, f5⟩ := Q.out.1.2.2.free
    obtain ⟨z0, z1, z2, z3, z4, z5⟩ := Q.out.1.2.2.cells
    obtain ⟨c0, c1, c2, c3, c4, c5⟩ := Q.out.2.cells
    have k1 := Q.out.1.2.1.lt
    have k2 := Q.out.1.2.2.lt
    have k3 := Q.out.2.lt
    go_wp2_with fail
    refine (C2.out _).mono ?_
    rintro e w8 ⟨rfl, hb⟩
    replace Q := Lib.hid (And.intro (Q.out.1.after hb) (Q.out.2.after hb))
    clear hb
    clear p0 p1 p2 p3 p4 f0 f1 f2 f3 f4 f5 z0 z1 z2 z3 z4 z5 c0 c1 c2 c3 c4 c5 k1 k2 k3
    obtain ⟨p0, p1, p2, p3, p4⟩ := Q.out.1.2.1.cells
    obtain ⟨f0, f1, f2, f3, f4, f5⟩ := Q.out.1.2.2.free
    obtain ⟨z0, z1, z2, z3, z4, z5⟩ := Q.out.1.2.2.cells
    obtain ⟨c0, c1, c2, c3, c4, c5⟩ := Q.out.2.cells
    have k1 := Q.out.1.2.1.lt
    have k2 := Q.out.1.2.2.lt
    have k3 := Q.out.2.lt
    go_wp2_with fail
    refine (C3.out _).mono ?_
    rintro e w8 ⟨rfl, hb⟩
    replace Q := Lib.hid (And.intro (Q.out.1.after hb) (Q.out.2.after hb))
    clear hb
    clear p0 p1 p2 p3 p4 f0 f1 f2 f3 f4 f5 z0 z1 z2 z3 z4 z5 c0 c1 c2 c3 c4 c5 k1 k2 k3
    obtain ⟨p0, p1, p2, p3, p4⟩ := Q.out.1.2.1.cells
    obtain ⟨f0, f1, f2, f3, f4, f5⟩ := Q.out.1.2.2.free
    obtain ⟨z0, z1, z2, z3, z4, z5⟩ := Q.out.1.2.2.cells
    obtain ⟨c0, c1, c2, c3, c4, c5⟩ := Q.out.2.cells
    have k1 := Q.out.1.2.1.lt
    have k2 := Q.out.1.2.2.lt
    have k3 := Q.out.2.lt
    have BB := Lib.hid (Q.out.1.set Wh.zero).1
    go_wp2_with fail
    exact bodyPost_ret (v := .tuple #[whV Wh.zero, .int .u8 0]) (by simp [results, Tryz.results148, go_sem, z0, z1, z2, z3, z4, z5, k2, Wh.zero]) rfl ⟨rfl, BB.out⟩
set_option maxRecDepth 100000 in
set_option maxHeartbeats 1000000 in
theorem c7_put_e (x : Ins) (s m : Int) (b : Bool) (e1 : (m == 96) = false) (e2 : (m == 192) = true) (e3 : 4 ≤ s) (e4 : b = true) (oo : Int) (hm : x.imm % 256 = oo)
    (C1 : Hid (∀ w, Calls Tryz.prog 177 #[iV x] w (Gives (.int .i64 s) w)))
    (C2 : Hid (∀ w, Calls Tryz.prog 178 #[iV x] w (Gives (.int .u8 m) w)))
    (C3 : Hid (∀ w, Calls Tryz.prog 179 #[.int .i32 x.imm] w (Gives (.bool b) w))) (w : World) :
    Calls Tryz.prog 148 #[iV x] w (Gives (.tuple #[whV (⟨8, oo, false, true, false, s⟩ : Wh), .int .u8 30]) w) := by
  have P : Hid (IDuo x Wh.zero w ((w.alloc (.cells #[.int .u8 x.op, .int .u8 x.dst, .int .u8 x.src, .int .i16 x.off, .int .i32 x.imm] 63)).alloc (.cells #[.int .u8 0, .int .u8 0, .bool false, .bool false, .bool false, .int .i64 0] 96))) := Lib.hid (IDuo.new x Wh.zero w)
  go_enter Tryz.func148, Tryz.ntmps148
  subst e4
  go_upto_region 1 with fail
  go_cut [4] (fun sl wx => ∃ gb, sl = .pointer (some ⟨gb, 0, none⟩) ∧ w.heap.size + 1 < gb ∧ Hid (IDuo x Wh.zero w wx ∧ whB gb (⟨7, 0, false, true, false, s⟩ : Wh) wx))
  case first =>
    go_wp2_with fail
    refine (C1.out _).mono ?_
    rintro e w5 ⟨rfl, hb⟩
    replace P := Lib.hid (P.out.after hb)
    clear hb
    have k2 := P.out.2.2.lt
    go_wp2_with fail
    go_meet
    exact ⟨_, rfl, k2, Lib.hid ⟨P.out.after (below_alloc (Below.refl _ _) _), whB.new _ (⟨7, 0, false, true, false, s⟩ : Wh) rfl⟩⟩
  case rest =>
    clear P
    obtain ⟨gb, rfl, kg, Q⟩ := hcut
    obtain ⟨p0, p1, p2, p3, p4⟩ := Q.out.1.2.1.cells
    obtain ⟨f0, f1, f2, f3, f4, f5⟩ := Q.out.1.2.2.free
    obtain ⟨z0, z1, z2, z3, z4, z5⟩ := Q.out.1.2.2.cells
    obtain ⟨c0, c1, c2, c3, c4, c5⟩ := Q.out.2.cells
    have k1 := Q.out.1.2.1.lt
    have k2 := Q.out.1.2.2.lt
    have k3 := Q.out.2.lt
    go_wp2_with fail
    refine (C2.out _).mono ?_
    rintro e w8 ⟨rfl, hb⟩
    replace Q := Lib.hid (And.intro (Q.out.1.after hb) (Q.out.2.after hb))
    clear hb
    clear p0 p1 p2 p3 p4 f0 f1 f2 f3 f4 f5 z0 z1 z2 z3 z4 z5 c0 c1 c2 c3 c4 c5 k1 k2 k3
    obtain ⟨p0, p1, p2, p3, p4⟩ := Q.out.1.2.1.cells
    obtain ⟨f0, f1, f2, f3, f4, f5⟩ := Q.out.1.2.2.free
    obtain ⟨z0, z1, z2, z3, z4, z5⟩ := Q.out.1.2.2.cells
    obtain ⟨c0, c1, c2, c3, c4, c5⟩ := Q.out.2.cells
    have k1 := Q.out.1.2.1.lt
    have k2 := Q.out.1.2.2.lt
    have k3 := Q.out.2.lt
    go_wp2_with fail
    refine (C2.out _).mono ?_
    rintro e w8 ⟨rfl, hb⟩
    replace Q := Lib.hid (And.intro (Q.out.1.after hb) (Q.out.2.after hb))
    clear hb
    clear p0 p1 p2 p3 p4 f0 f1 f2 f3 f4 f5 z0 z1 z2 z3 z4 z5 c0 c1 c2 c3 c4 c5 k1 k2 k3
    obtain ⟨p0, p1, p2, p3, p4⟩ := Q.out.1.2.1.cells
    obtain ⟨f0, f1, f2, f3, f4, f5⟩ := Q.out.1.2.2.free
    obtain ⟨z0, z1, z2, z3, z4, z5⟩ := Q.out.1.2.2.cells
    obtain ⟨c0, c1, c2, c3, c4, c5⟩ := Q.out.2.cells
    have k1 := Q.out.1.2.1.lt
    have k2 := Q.out.1.2.2.lt
    have k3 := Q.out.2.lt
    go_wp2_with fail
    refine (C3.out _).mono ?_
    rintro e w8 ⟨rfl, hb⟩
    replace Q := Lib.hid (And.intro (Q.out.1.after hb) (Q.out.2.after hb))
    clear hb
    clear p0 p1 p2 p3 p4 f0 f1 f2 f3 f4 f5 z0 z1 z2 z3 z4 z5 c0 c1 c2 c3 c4 c5 k1 k2 k3
    obtain ⟨p0, p1, p2, p3, p4⟩ := Q.out.1.2.1.cells
    obtain ⟨f0, f1, f2, f3, f4, f5⟩ := Q.out.1.2.2.free
    obtain ⟨z0, z1, z2, z3, z4, z5⟩ := Q.out.1.2.2.cells
    obtain ⟨c0, c1, c2, c3, c4, c5⟩ := Q.out.2.cells
    have k1 := Q.out.1.2.1.lt
    have k2 := Q.out.1.2.2.lt
    have k3 := Q.out.2.lt
    obtain ⟨g0, g1, g2, g3, g4, g5⟩ := Q.out.2.free
    go_wp2_with fail
    go_region
    go_wp2_with fail
    have QQ := Lib.hid (((iduo_cell' (iduo_cell' Q.out.1 0 (.int .u8 8) kg) 1 (.int .u8 oo) kg).set (⟨8, oo, false, true, false, s⟩ : Wh)).after (Below.drew (Below.refl _ _)))
    clear p0 p1 p2 p3 p4 f0 f1 f2 f3 f4 f5 z0 z1 z2 z3 z4 z5 c0 c1 c2 c3 c4 c5 k1 k3
    obtain ⟨z0, z1, z2, z3, z4, z5⟩ := QQ.out.2.2.cells
    exact bodyPost_ret (v := .tuple #[whV (⟨8, oo, false, true, false, s⟩ : Wh), .int .u8 30]) (by simp [results, Tryz.results148, go_sem, z0, z1, z2, z3, z4, z5, k2, Wh.zero]) rfl ⟨rfl, QQ.out.1⟩
theorem c7_put (x : Ins) (hx : x.ok) (w : World) : Calls Tryz.prog 148 #[iV x] w (Gives (.tuple #[whV (tPutI x).1, .int .u8 (tPutI x).2]) w) := by
  have C1 := Lib.hid (c7_sizeOf x hx)
  have C2 := Lib.hid (c7_mode x hx)
  have C3 := Lib.hid (c7_isAtom x.imm)
  unfold tPutI
  generalize x.op / 32 * 32 = m at *
  generalize szT x.op = s at *
  generalize atomB x.imm = b at *
  cases h1 : (m == 96)
  rotate_left 1
  · exact c7_put_a x s m _ h1 C1 C2 C3 w
  cases h2 : (m == 192)
  · exact c7_put_b x s m _ h1 h2 C1 C2 C3 w
  by_cases h3 : 4 ≤ s
  · rw [decide_eq_true h3]
    cases b
    · exact c7_put_d x s m _ h1 h2 h3 rfl C1 C2 C3 w
    · exact c7_put_e x s m _ h1 h2 h3 rfl _ rfl C1 C2 C3 w
  · rw [decide_eq_false h3]
    exact c7_put_c x s m _ h1 h2 (by omega) C1 C2 C3 w
end Go.Proofs.YtlbhffdpklbhfaaGreat
