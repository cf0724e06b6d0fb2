/-
  The document's own answers of layer 7: loads and stores.
  Conditions: the numbers fit their kinds.
-/
import Derived.Test.YtplndcjmbgkcjaaWhBox
import Derived.Test.YtplndcjmbgkcjaaRef07a
import Derived.Deep.RegionHeld3
import Derived.Deep.DeepCutAuto
import Derived.Deep.CutBlock
namespace Go.Proofs.Ytplndcjmbgkcjaa
open Go.RowKit
set_option linter.unusedVariables false

set_option maxRecDepth 100000 in
set_option maxHeartbeats 8000000 in
theorem r7_mem_load (x : Ins) (L G S P : Int) (hp : 0 < L + G) (l1 : 0 ≤ L ∧ L ≤ 8) (g1 : 0 ≤ G ∧ G ≤ 8) (w : World) (b : Bool)
    (K1 : Hid (∀ w g, g = w.heap.size → Calls Try.prog 71 #[.slice (some ⟨g, 0, none⟩) 4 4, .int .u8 x.op] (w.alloc (.cells #[.int .u8 97, .int .u8 105, .int .u8 113, .int .u8 121] 5)) (Gives (.int .i64 L) w)))
    (K2 : Hid (∀ w g, g = w.heap.size → Calls Try.prog 71 #[.slice (some ⟨g, 0, none⟩) 3 3, .int .u8 x.op] (w.alloc (.cells #[.int .u8 129, .int .u8 137, .int .u8 145] 5)) (Gives (.int .i64 G) w)))
    (K3 : Hid (∀ w g, g = w.heap.size → Calls Try.prog 71 #[.slice (some ⟨g, 0, none⟩) 4 4, .int .u8 x.op] (w.alloc (.cells #[.int .u8 98, .int .u8 106, .int .u8 114, .int .u8 122] 5)) (Gives (.int .i64 S) w)))
    (K4 : Hid (∀ w g, g = w.heap.size → Calls Try.prog 71 #[.slice (some ⟨g, 0, none⟩) 4 4, .int .u8 x.op] (w.alloc (.cells #[.int .u8 99, .int .u8 107, .int .u8 115, .int .u8 123] 5)) (Gives (.int .i64 P) w)))
    (C : Hid (∀ w, Calls Try.prog 61 #[iV x, .bool true, .bool true, .bool false] w (Gives (.bool b) w))) :
    Calls Try.prog 62 #[iV x] w (Gives (.tuple #[whV (⟨5, 0, false, false, decide (0 < G), L + G⟩ : Wh), .bool (!(x.dst == 10) && b)]) w) := by
  have D := Lib.hid (IDuo.new x Wh.zero w)
  go_enter Try.func62, Try.ntmps62
  go_upto_region 1 with fail
  go_cut [4] (fun s wx => s = .int .i64 L ∧ Hid (IDuo x Wh.zero w wx))
  case first =>
    go_wp2_with fail
    refine (K1.out _ _ (by simp)).mono ?_
    rintro e w5 ⟨rfl, b5⟩
    have Q := Lib.hid (D.out.after b5)
    clear D b5
    go_wp2_with fail
    go_meet
    exact ⟨rfl, Q⟩
  case rest =>
    obtain ⟨rfl, Q⟩ := hcut
    clear D
    obtain ⟨p0, p1, p2, p3, p4⟩ := Q.out.2.1.cells
    have k1 := Q.out.2.1.lt
    go_wp2_with fail
    refine (K2.out _ _ (by simp)).mono ?_
    rintro e w5 ⟨rfl, b5⟩
    replace Q := Lib.hid (Q.out.after b5)
    clear b5 p0 p1 p2 p3 p4 k1
    obtain ⟨p0, p1, p2, p3, p4⟩ := Q.out.2.1.cells
    have k1 := Q.out.2.1.lt
    go_wp2_with fail
    refine (K3.out _ _ (by simp)).mono ?_
    rintro e w6 ⟨rfl, b5⟩
    replace Q := Lib.hid (Q.out.after b5)
    clear b5 p0 p1 p2 p3 p4 k1
    obtain ⟨p0, p1, p2, p3, p4⟩ := Q.out.2.1.cells
    have k1 := Q.out.2.1.lt
    go_wp2_with fail
    refine (K4.out _ _ (by simp)).mono ?_
    rintro e w7 ⟨rfl, b5⟩
    replace Q := Lib.hid (Q.out.after b5)
    clear b5 p0 p1 p2 p3 p4 k1
    obtain ⟨p0, p1, p2, p3, p4⟩ := Q.out.2.1.cells
    have k1 := Q.out.2.1.lt
    cases hd : (x.dst == 10)
    · have hd' : (x.dst != 10) = true := by unfold bne; rw [hd]; rfl
      have HD := Lib.hid hd
      clear hd
      go_wp2_with fail
      refine (C.out _).mono ?_
      rintro e w8 ⟨rfl, b5⟩
      replace Q := Lib.hid (Q.out.after b5)
      clear b5 p0 p1 p2 p3 p4 k1
      obtain ⟨f0, f1, f2, f3, f4, f5⟩ := Q.out.2.2.free
      obtain ⟨z0, z1, z2, z3, z4, z5⟩ := Q.out.2.2.cells
      have BB := Lib.hid (Q.out.set (⟨5, 0, false, false, decide (0 < G), L + G⟩ : Wh)).1
      go_wp2_with fail
      exact bodyPost_ret (v := .tuple #[whV (⟨5, 0, false, false, decide (0 < G), L + G⟩ : Wh), .bool b]) (by simp [results, Try.results62, go_sem, z0, z1, z2, z3, z4, z5]) rfl ⟨by rw [HD.out]; rfl, BB.out⟩
    · have hd' : (x.dst != 10) = false := by unfold bne; rw [hd]; rfl
      have HD := Lib.hid hd
      clear hd
      obtain ⟨f0, f1, f2, f3, f4, f5⟩ := Q.out.2.2.free
      obtain ⟨z0, z1, z2, z3, z4, z5⟩ := Q.out.2.2.cells
      have k2 := Q.out.2.2.lt
      have BB := Lib.hid (Q.out.set (⟨5, 0, false, false, decide (0 < G), L + G⟩ : Wh)).1
      go_wp2_with fail
      exact bodyPost_ret (v := .tuple #[whV (⟨5, 0, false, false, decide (0 < G), L + G⟩ : Wh), .bool false]) (by simp [results, Try.results62, go_sem, z0, z1, z2, z3, z4, z5]) rfl ⟨by rw [HD.out]; rfl, BB.out⟩

set_option maxRecDepth 100000 in
set_option maxHeartbeats 8000000 in
theorem r7_mem_store (x : Ins) (S P : Int) (hp : 0 < S) (w : World) (b : Bool)
    (K1 : Hid (∀ w g, g = w.heap.size → Calls Try.prog 71 #[.slice (some ⟨g, 0, none⟩) 4 4, .int .u8 x.op] (w.alloc (.cells #[.int .u8 97, .int .u8 105, .int .u8 113, .int .u8 121] 5)) (Gives (.int .i64 0) w)))
    (K2 : Hid (∀ w g, g = w.heap.size → Calls Try.prog 71 #[.slice (some ⟨g, 0, none⟩) 3 3, .int .u8 x.op] (w.alloc (.cells #[.int .u8 129, .int .u8 137, .int .u8 145] 5)) (Gives (.int .i64 0) w)))
    (K3 : Hid (∀ w g, g = w.heap.size → Calls Try.prog 71 #[.slice (some ⟨g, 0, none⟩) 4 4, .int .u8 x.op] (w.alloc (.cells #[.int .u8 98, .int .u8 106, .int .u8 114, .int .u8 122] 5)) (Gives (.int .i64 S) w)))
    (K4 : Hid (∀ w g, g = w.heap.size → Calls Try.prog 71 #[.slice (some ⟨g, 0, none⟩) 4 4, .int .u8 x.op] (w.alloc (.cells #[.int .u8 99, .int .u8 107, .int .u8 115, .int .u8 123] 5)) (Gives (.int .i64 P) w)))
    (C : Hid (∀ w, Calls Try.prog 61 #[iV x, .bool false, .bool true, .bool true] w (Gives (.bool b) w))) :
    Calls Try.prog 62 #[iV x] w (Gives (.tuple #[whV (⟨6, 0, false, false, false, S⟩ : Wh), .bool b]) w) := by
  have D := Lib.hid (IDuo.new x Wh.zero w)
  go_enter Try.func62, Try.ntmps62
  go_upto_region 1 with fail
  go_cut [4] (fun s wx => s = .int .i64 0 ∧ Hid (IDuo x Wh.zero w wx))
  case first =>
    go_wp2_with fail
    refine (K1.out _ _ (by simp)).mono ?_
    rintro e w5 ⟨rfl, b5⟩
    have Q := Lib.hid (D.out.after b5)
    clear D b5
    go_wp2_with fail
    go_meet
    exact ⟨rfl, Q⟩
  case rest =>
    obtain ⟨rfl, Q⟩ := hcut
    clear D
    obtain ⟨p0, p1, p2, p3, p4⟩ := Q.out.2.1.cells
    have k1 := Q.out.2.1.lt
    go_wp2_with fail
    refine (K2.out _ _ (by simp)).mono ?_
    rintro e w5 ⟨rfl, b5⟩
    replace Q := Lib.hid (Q.out.after b5)
    clear b5 p0 p1 p2 p3 p4 k1
    obtain ⟨p0, p1, p2, p3, p4⟩ := Q.out.2.1.cells
    have k1 := Q.out.2.1.lt
    go_wp2_with fail
    refine (K3.out _ _ (by simp)).mono ?_
    rintro e w6 ⟨rfl, b5⟩
    replace Q := Lib.hid (Q.out.after b5)
    clear b5 p0 p1 p2 p3 p4 k1
    obtain ⟨p0, p1, p2, p3, p4⟩ := Q.out.2.1.cells
    have k1 := Q.out.2.1.lt
    go_wp2_with fail
    refine (K4.out _ _ (by simp)).mono ?_
    rintro e w7 ⟨rfl, b5⟩
    replace Q := Lib.hid (Q.out.after b5)
    clear b5 p0 p1 p2 p3 p4 k1
    obtain ⟨p0, p1, p2, p3, p4⟩ := Q.out.2.1.cells
    have k1 := Q.out.2.1.lt
    go_wp2_with fail
    refine (C.out _).mono ?_
    rintro e w8 ⟨rfl, b5⟩
    replace Q := Lib.hid (Q.out.after b5)
    clear b5 p0 p1 p2 p3 p4 k1
    obtain ⟨f0, f1, f2, f3, f4, f5⟩ := Q.out.2.2.free
    obtain ⟨z0, z1, z2, z3, z4, z5⟩ := Q.out.2.2.cells
    have BB := Lib.hid (Q.out.set (⟨6, 0, false, false, false, S⟩ : Wh)).1
    go_wp2_with fail
    exact bodyPost_ret (v := .tuple #[whV (⟨6, 0, false, false, false, S⟩ : Wh), .bool b]) (by simp [results, Try.results62, go_sem, z0, z1, z2, z3, z4, z5]) rfl ⟨rfl, BB.out⟩

set_option maxRecDepth 100000 in
set_option maxHeartbeats 8000000 in
theorem r7_mem_put (x : Ins) (P : Int) (hp : 0 < P) (w : World) (b : Bool)
    (K1 : Hid (∀ w g, g = w.heap.size → Calls Try.prog 71 #[.slice (some ⟨g, 0, none⟩) 4 4, .int .u8 x.op] (w.alloc (.cells #[.int .u8 97, .int .u8 105, .int .u8 113, .int .u8 121] 5)) (Gives (.int .i64 0) w)))
    (K2 : Hid (∀ w g, g = w.heap.size → Calls Try.prog 71 #[.slice (some ⟨g, 0, none⟩) 3 3, .int .u8 x.op] (w.alloc (.cells #[.int .u8 129, .int .u8 137, .int .u8 145] 5)) (Gives (.int .i64 0) w)))
    (K3 : Hid (∀ w g, g = w.heap.size → Calls Try.prog 71 #[.slice (some ⟨g, 0, none⟩) 4 4, .int .u8 x.op] (w.alloc (.cells #[.int .u8 98, .int .u8 106, .int .u8 114, .int .u8 122] 5)) (Gives (.int .i64 0) w)))
    (K4 : Hid (∀ w g, g = w.heap.size → Calls Try.prog 71 #[.slice (some ⟨g, 0, none⟩) 4 4, .int .u8 x.op] (w.alloc (.cells #[.int .u8 99, .int .u8 107, .int .u8 115, .int .u8 123] 5)) (Gives (.int .i64 P) w)))
    (C : Hid (∀ w, Calls Try.prog 61 #[iV x, .bool true, .bool true, .bool false] w (Gives (.bool b) w))) :
    Calls Try.prog 62 #[iV x] w (Gives (.tuple #[whV (⟨7, 0, false, true, false, P⟩ : Wh), .bool b]) w) := by
  have D := Lib.hid (IDuo.new x Wh.zero w)
  go_enter Try.func62, Try.ntmps62
  go_upto_region 1 with fail
  go_cut [4] (fun s wx => s = .int .i64 0 ∧ Hid (IDuo x Wh.zero w wx))
  case first =>
    go_wp2_with fail
    refine (K1.out _ _ (by simp)).mono ?_
    rintro e w5 ⟨rfl, b5⟩
    have Q := Lib.hid (D.out.after b5)
    clear D b5
    go_wp2_with fail
    go_meet
    exact ⟨rfl, Q⟩
  case rest =>
    obtain ⟨rfl, Q⟩ := hcut
    clear D
    obtain ⟨p0, p1, p2, p3, p4⟩ := Q.out.2.1.cells
    have k1 := Q.out.2.1.lt
    go_wp2_with fail
    refine (K2.out _ _ (by simp)).mono ?_
    rintro e w5 ⟨rfl, b5⟩
    replace Q := Lib.hid (Q.out.after b5)
    clear b5 p0 p1 p2 p3 p4 k1
    obtain ⟨p0, p1, p2, p3, p4⟩ := Q.out.2.1.cells
    have k1 := Q.out.2.1.lt
    go_wp2_with fail
    refine (K3.out _ _ (by simp)).mono ?_
    rintro e w6 ⟨rfl, b5⟩
    replace Q := Lib.hid (Q.out.after b5)
    clear b5 p0 p1 p2 p3 p4 k1
    obtain ⟨p0, p1, p2, p3, p4⟩ := Q.out.2.1.cells
    have k1 := Q.out.2.1.lt
    go_wp2_with fail
    refine (K4.out _ _ (by simp)).mono ?_
    rintro e w7 ⟨rfl, b5⟩
    replace Q := Lib.hid (Q.out.after b5)
    clear b5 p0 p1 p2 p3 p4 k1
    obtain ⟨p0, p1, p2, p3, p4⟩ := Q.out.2.1.cells
    have k1 := Q.out.2.1.lt
    go_wp2_with fail
    refine (C.out _).mono ?_
    rintro e w8 ⟨rfl, b5⟩
    replace Q := Lib.hid (Q.out.after b5)
    clear b5 p0 p1 p2 p3 p4 k1
    obtain ⟨f0, f1, f2, f3, f4, f5⟩ := Q.out.2.2.free
    obtain ⟨z0, z1, z2, z3, z4, z5⟩ := Q.out.2.2.cells
    have BB := Lib.hid (Q.out.set (⟨7, 0, false, true, false, P⟩ : Wh)).1
    go_wp2_with fail
    exact bodyPost_ret (v := .tuple #[whV (⟨7, 0, false, true, false, P⟩ : Wh), .bool b]) (by simp [results, Try.results62, go_sem, z0, z1, z2, z3, z4, z5]) rfl ⟨rfl, BB.out⟩

set_option maxRecDepth 100000 in
set_option maxHeartbeats 8000000 in
theorem r7_mem_none (x : Ins) (h1 : (x.op == 195) = false) (h2 : (x.op == 219) = false) (w : World) (b : Bool)
    (K1 : Hid (∀ w g, g = w.heap.size → Calls Try.prog 71 #[.slice (some ⟨g, 0, none⟩) 4 4, .int .u8 x.op] (w.alloc (.cells #[.int .u8 97, .int .u8 105, .int .u8 113, .int .u8 121] 5)) (Gives (.int .i64 0) w)))
    (K2 : Hid (∀ w g, g = w.heap.size → Calls Try.prog 71 #[.slice (some ⟨g, 0, none⟩) 3 3, .int .u8 x.op] (w.alloc (.cells #[.int .u8 129, .int .u8 137, .int .u8 145] 5)) (Gives (.int .i64 0) w)))
    (K3 : Hid (∀ w g, g = w.heap.size → Calls Try.prog 71 #[.slice (some ⟨g, 0, none⟩) 4 4, .int .u8 x.op] (w.alloc (.cells #[.int .u8 98, .int .u8 106, .int .u8 114, .int .u8 122] 5)) (Gives (.int .i64 0) w)))
    (K4 : Hid (∀ w g, g = w.heap.size → Calls Try.prog 71 #[.slice (some ⟨g, 0, none⟩) 4 4, .int .u8 x.op] (w.alloc (.cells #[.int .u8 99, .int .u8 107, .int .u8 115, .int .u8 123] 5)) (Gives (.int .i64 0) w))) :
    Calls Try.prog 62 #[iV x] w (Gives (.tuple #[whV (⟨0, 0, false, false, false, 0⟩ : Wh), .bool false]) w) := by
  have D := Lib.hid (IDuo.new x Wh.zero w)
  go_enter Try.func62, Try.ntmps62
  go_upto_region 1 with fail
  go_cut [4] (fun s wx => s = .int .i64 0 ∧ Hid (IDuo x Wh.zero w wx))
  case first =>
    go_wp2_with fail
    refine (K1.out _ _ (by simp)).mono ?_
    rintro e w5 ⟨rfl, b5⟩
    have Q := Lib.hid (D.out.after b5)
    clear D b5
    go_wp2_with fail
    go_meet
    exact ⟨rfl, Q⟩
  case rest =>
    obtain ⟨rfl, Q⟩ := hcut
    clear D
    obtain ⟨p0, p1, p2, p3, p4⟩ := Q.out.2.1.cells
    have k1 := Q.out.2.1.lt
    go_wp2_with fail
    refine (K2.out _ _ (by simp)).mono ?_
    rintro e w5 ⟨rfl, b5⟩
    replace Q := Lib.hid (Q.out.after b5)
    clear b5 p0 p1 p2 p3 p4 k1
    obtain ⟨p0, p1, p2, p3, p4⟩ := Q.out.2.1.cells
    have k1 := Q.out.2.1.lt
    go_wp2_with fail
    refine (K3.out _ _ (by simp)).mono ?_
    rintro e w6 ⟨rfl, b5⟩
    replace Q := Lib.hid (Q.out.after b5)
    clear b5 p0 p1 p2 p3 p4 k1
    obtain ⟨p0, p1, p2, p3, p4⟩ := Q.out.2.1.cells
    have k1 := Q.out.2.1.lt
    go_wp2_with fail
    refine (K4.out _ _ (by simp)).mono ?_
    rintro e w7 ⟨rfl, b5⟩
    replace Q := Lib.hid (Q.out.after b5)
    clear b5 p0 p1 p2 p3 p4 k1
    obtain ⟨p0, p1, p2, p3, p4⟩ := Q.out.2.1.cells
    have k1 := Q.out.2.1.lt
    obtain ⟨f0, f1, f2, f3, f4, f5⟩ := Q.out.2.2.free
    obtain ⟨z0, z1, z2, z3, z4, z5⟩ := Q.out.2.2.cells
    have k2 := Q.out.2.2.lt
    have BB := Lib.hid (Q.out.set (⟨0, 0, false, false, false, 0⟩ : Wh)).1
    go_wp2_with fail
    exact bodyPost_ret (v := .tuple #[whV (⟨0, 0, false, false, false, 0⟩ : Wh), .bool false]) (by simp [results, Try.results62, go_sem, z0, z1, z2, z3, z4, z5]) rfl ⟨rfl, BB.out⟩

set_option maxRecDepth 100000 in
set_option maxHeartbeats 8000000 in
theorem r7_mem_atom4 (x : Ins) (h1 : (x.op == 195) = true) (h2 : (x.op == 219) = false) (w : World) (b : Bool)
    (K1 : Hid (∀ w g, g = w.heap.size → Calls Try.prog 71 #[.slice (some ⟨g, 0, none⟩) 4 4, .int .u8 x.op] (w.alloc (.cells #[.int .u8 97, .int .u8 105, .int .u8 113, .int .u8 121] 5)) (Gives (.int .i64 0) w)))
    (K2 : Hid (∀ w g, g = w.heap.size → Calls Try.prog 71 #[.slice (some ⟨g, 0, none⟩) 3 3, .int .u8 x.op] (w.alloc (.cells #[.int .u8 129, .int .u8 137, .int .u8 145] 5)) (Gives (.int .i64 0) w)))
    (K3 : Hid (∀ w g, g = w.heap.size → Calls Try.prog 71 #[.slice (some ⟨g, 0, none⟩) 4 4, .int .u8 x.op] (w.alloc (.cells #[.int .u8 98, .int .u8 106, .int .u8 114, .int .u8 122] 5)) (Gives (.int .i64 0) w)))
    (K4 : Hid (∀ w g, g = w.heap.size → Calls Try.prog 71 #[.slice (some ⟨g, 0, none⟩) 4 4, .int .u8 x.op] (w.alloc (.cells #[.int .u8 99, .int .u8 107, .int .u8 115, .int .u8 123] 5)) (Gives (.int .i64 0) w))) :
    Calls Try.prog 62 #[iV x] w (Gives (.tuple #[whV (⟨8, x.imm % 256, false, true, false, 4⟩ : Wh), .bool (x.imm == 0 || x.imm == 64 || x.imm == 80 || x.imm == 160)]) w) := by
  have D := Lib.hid (IDuo.new x Wh.zero w)
  go_enter Try.func62, Try.ntmps62
  go_upto_region 1 with fail
  go_cut [4] (fun s wx => s = .int .i64 0 ∧ Hid (IDuo x Wh.zero w wx))
  case first =>
    go_wp2_with fail
    refine (K1.out _ _ (by simp)).mono ?_
    rintro e w5 ⟨rfl, b5⟩
    have Q := Lib.hid (D.out.after b5)
    clear D b5
    go_wp2_with fail
    go_meet
    exact ⟨rfl, Q⟩
  case rest =>
    obtain ⟨rfl, Q⟩ := hcut
    clear D
    obtain ⟨p0, p1, p2, p3, p4⟩ := Q.out.2.1.cells
    have k1 := Q.out.2.1.lt
    go_wp2_with fail
    refine (K2.out _ _ (by simp)).mono ?_
    rintro e w5 ⟨rfl, b5⟩
    replace Q := Lib.hid (Q.out.after b5)
    clear b5 p0 p1 p2 p3 p4 k1
    obtain ⟨p0, p1, p2, p3, p4⟩ := Q.out.2.1.cells
    have k1 := Q.out.2.1.lt
    go_wp2_with fail
    refine (K3.out _ _ (by simp)).mono ?_
    rintro e w6 ⟨rfl, b5⟩
    replace Q := Lib.hid (Q.out.after b5)
    clear b5 p0 p1 p2 p3 p4 k1
    obtain ⟨p0, p1, p2, p3, p4⟩ := Q.out.2.1.cells
    have k1 := Q.out.2.1.lt
    go_wp2_with fail
    refine (K4.out _ _ (by simp)).mono ?_
    rintro e w7 ⟨rfl, b5⟩
    replace Q := Lib.hid (Q.out.after b5)
    clear b5 p0 p1 p2 p3 p4 k1
    obtain ⟨p0, p1, p2, p3, p4⟩ := Q.out.2.1.cells
    have k1 := Q.out.2.1.lt
    have kq := Q.out.2.2.lt
    go_upto_region 15 with fail
    go_cut [71] (fun s wx => Hid (IDuo x Wh.zero w wx ∧ whB w7.heap.size (⟨8, x.imm % 256, false, true, false, 4⟩ : Wh) wx))
    case first =>
      go_wp2_with fail
      go_meet
      exact Lib.hid ⟨Q.out.after (below_alloc (Below.refl _ _) _), whB.new _ _ rfl⟩
    case rest =>
      clear Q p0 p1 p2 p3 p4
      have Q := hcut
      clear hcut
      generalize w7.heap.size = gb at *
      generalize x.imm % 256 = oo at *
      have PD := Lib.hid (And.intro (Q.out.1.after (Below.drew (Below.refl _ _))) (Q.out.2.after (Below.drew (Below.refl _ _))))
      have H : Hid (∀ v wx, IDuo x v w wx ∧ whB gb (⟨8, oo, false, true, false, 4⟩ : Wh) wx → (wx.cell? ⟨w.heap.size, 0, none⟩ = some (.int .u8 x.op) ∧ wx.cell? ⟨w.heap.size, 1, none⟩ = some (.int .u8 x.dst) ∧ wx.cell? ⟨w.heap.size, 2, none⟩ = some (.int .u8 x.src) ∧ wx.cell? ⟨w.heap.size, 3, none⟩ = some (.int .i16 x.off) ∧ wx.cell? ⟨w.heap.size, 4, none⟩ = some (.int .i32 x.imm)) ∧ (wx.cell? ⟨gb, 0, none⟩ = some (.int .u8 (⟨8, oo, false, true, false, 4⟩ : Wh).kind) ∧ wx.cell? ⟨gb, 1, none⟩ = some (.int .u8 (⟨8, oo, false, true, false, 4⟩ : Wh).op) ∧ wx.cell? ⟨gb, 2, none⟩ = some (.bool (⟨8, oo, false, true, false, 4⟩ : Wh).wide) ∧ wx.cell? ⟨gb, 3, none⟩ = some (.bool (⟨8, oo, false, true, false, 4⟩ : Wh).reg) ∧ wx.cell? ⟨gb, 4, none⟩ = some (.bool (⟨8, oo, false, true, false, 4⟩ : Wh).signed) ∧ wx.cell? ⟨gb, 5, none⟩ = some (.int .i64 (⟨8, oo, false, true, false, 4⟩ : Wh).size))) := Lib.hid fun v wx hx => ⟨hx.1.2.1.cells, hx.2.cells⟩
      cases t0 : (x.imm == 0)
      · skip
        cases t1 : (x.imm == 64)
        · skip
          cases t2 : (x.imm == 80)
          · skip
            cases t3 : (x.imm == 160)
            · skip
              have E : Hid ((x.imm == 0 || x.imm == 64 || x.imm == 80 || x.imm == 160) = false) := Lib.hid (by simp [t0, t1, t2, t3])
              go_upto_region 16 with fail
              refine wp_region_held_drew (S := (fun w' => (w'.cell? ⟨w.heap.size, 0, none⟩ = some (.int .u8 x.op) ∧ w'.cell? ⟨w.heap.size, 1, none⟩ = some (.int .u8 x.dst) ∧ w'.cell? ⟨w.heap.size, 2, none⟩ = some (.int .u8 x.src) ∧ w'.cell? ⟨w.heap.size, 3, none⟩ = some (.int .i16 x.off) ∧ w'.cell? ⟨w.heap.size, 4, none⟩ = some (.int .i32 x.imm)) ∧ (w'.cell? ⟨gb, 0, none⟩ = some (.int .u8 (⟨8, oo, false, true, false, 4⟩ : Wh).kind) ∧ w'.cell? ⟨gb, 1, none⟩ = some (.int .u8 (⟨8, oo, false, true, false, 4⟩ : Wh).op) ∧ w'.cell? ⟨gb, 2, none⟩ = some (.bool (⟨8, oo, false, true, false, 4⟩ : Wh).wide) ∧ w'.cell? ⟨gb, 3, none⟩ = some (.bool (⟨8, oo, false, true, false, 4⟩ : Wh).reg) ∧ w'.cell? ⟨gb, 4, none⟩ = some (.bool (⟨8, oo, false, true, false, 4⟩ : Wh).signed) ∧ w'.cell? ⟨gb, 5, none⟩ = some (.int .i64 (⟨8, oo, false, true, false, 4⟩ : Wh).size)))) (by kernel_rfl) (H.out _ _ PD.out) (fun hHeld => ?_)
              refine wpAnyH_take (i := 0) (oi := { dst := some 75, op := Op.load 26 (Operand.tmp 8), type := 26, pos := "ref.go:74", after := #[], guard := none }) (v := ?_) rfl (by kernel_rfl) (by kernel_rfl) (by kernel_rfl) (fun _ _ _ h => h) (Or.inl ⟨by rfl, ?_⟩) (by assumption) ?_
              rotate_left 1
              · intro w hSw; (try dsimp only at hSw); go_simp; try (with_reducible rfl)
              try simp only [Act.put, List.setIfInBounds_toArray, List.set_cons_zero, List.set_cons_succ]
              refine wpAnyH_take (i := 1) (oi := { dst := some 76, op := Op.fieldAddr 24 (Operand.tmp 1) 4, type := 0, pos := "ref.go:74", after := #[], guard := none }) (v := ?_) rfl (by kernel_rfl) (by kernel_rfl) (by kernel_rfl) (fun _ _ _ h => h) (Or.inl ⟨by rfl, ?_⟩) (by assumption) ?_
              rotate_left 1
              · intro w hSw; (try dsimp only at hSw); go_simp; try (with_reducible rfl)
              try simp only [Act.put, List.setIfInBounds_toArray, List.set_cons_zero, List.set_cons_succ]
              refine wpAnyH_take (i := 2) (oi := { dst := some 77, op := Op.load 21 (Operand.tmp 76), type := 21, pos := "ref.go:74", after := #[{ on := 1, ground := Ground.data }], guard := none }) (v := ?_) rfl (by kernel_rfl) (by kernel_rfl) (by kernel_rfl) (fun _ _ _ h => h) (Or.inl ⟨by rfl, ?_⟩) (by assumption) ?_
              rotate_left 1
              · intro w hSw; (try dsimp only at hSw); go_simp; try (with_reducible rfl)
              try simp only [Act.put, List.setIfInBounds_toArray, List.set_cons_zero, List.set_cons_succ]
              refine wpAnyH_take (i := 3) (oi := { dst := some 78, op := Op.binOp BinOp.eql 21 (Operand.tmp 77) (Operand.const (Value.int IntKind.i32 0)) 21, type := 4, pos := "ref.go:74", after := #[{ on := 2, ground := Ground.data }], guard := none }) (v := ?_) rfl (by kernel_rfl) (by kernel_rfl) (by kernel_rfl) (fun _ _ _ h => h) (Or.inl ⟨by rfl, ?_⟩) (by assumption) ?_
              rotate_left 1
              · intro w hSw; (try dsimp only at hSw); go_simp; try (with_reducible rfl)
              try simp only [Act.put, List.setIfInBounds_toArray, List.set_cons_zero, List.set_cons_succ]
              refine wpAnyH_take (i := 4) (oi := { dst := some 79, op := Op.move (Operand.tmp 78), type := 4, pos := "ref.go:74", after := #[{ on := 3, ground := Ground.data }], guard := none }) (v := ?_) rfl (by kernel_rfl) (by kernel_rfl) (by kernel_rfl) (fun _ _ _ h => h) (Or.inl ⟨by rfl, ?_⟩) (by assumption) ?_
              rotate_left 1
              · intro w hSw; (try dsimp only at hSw); go_simp; try (with_reducible rfl)
              try simp only [Act.put, List.setIfInBounds_toArray, List.set_cons_zero, List.set_cons_succ]
              refine wpAnyH_take (i := 5) (oi := { dst := some 80, op := Op.fieldAddr 24 (Operand.tmp 1) 4, type := 0, pos := "ref.go:74", after := #[{ on := 4, ground := Ground.guard }], guard := some (4, false) }) (v := ?_) rfl (by kernel_rfl) (by kernel_rfl) (by kernel_rfl) (fun _ _ _ h => h) (Or.inl ⟨by rfl, ?_⟩) (by assumption) ?_
              rotate_left 1
              · intro w hSw; (try dsimp only at hSw); go_simp; try (with_reducible rfl)
              try simp only [Act.put, List.setIfInBounds_toArray, List.set_cons_zero, List.set_cons_succ]
              refine wpAnyH_take (i := 6) (oi := { dst := some 81, op := Op.load 21 (Operand.tmp 80), type := 21, pos := "ref.go:74", after := #[{ on := 5, ground := Ground.data }, { on := 4, ground := Ground.guard }], guard := some (4, false) }) (v := ?_) rfl (by kernel_rfl) (by kernel_rfl) (by kernel_rfl) (fun _ _ _ h => h) (Or.inl ⟨by rfl, ?_⟩) (by assumption) ?_
              rotate_left 1
              · intro w hSw; (try dsimp only at hSw); go_simp; try (with_reducible rfl)
              try simp only [Act.put, List.setIfInBounds_toArray, List.set_cons_zero, List.set_cons_succ]
              refine wpAnyH_take (i := 7) (oi := { dst := some 82, op := Op.binOp BinOp.eql 21 (Operand.tmp 81) (Operand.const (Value.int IntKind.i32 64)) 21, type := 4, pos := "ref.go:74", after := #[{ on := 6, ground := Ground.data }, { on := 4, ground := Ground.guard }], guard := some (4, false) }) (v := ?_) rfl (by kernel_rfl) (by kernel_rfl) (by kernel_rfl) (fun _ _ _ h => h) (Or.inl ⟨by rfl, ?_⟩) (by assumption) ?_
              rotate_left 1
              · intro w hSw; (try dsimp only at hSw); go_simp; try (with_reducible rfl)
              try simp only [Act.put, List.setIfInBounds_toArray, List.set_cons_zero, List.set_cons_succ]
              refine wpAnyH_take (i := 8) (oi := { dst := some 83, op := Op.pick (Operand.tmp 79) (Operand.const (Value.bool true)) (Operand.tmp 82), type := 4, pos := "ref.go:74", after := #[{ on := 4, ground := Ground.data }, { on := 7, ground := Ground.data }], guard := none }) (v := ?_) rfl (by kernel_rfl) (by kernel_rfl) (by kernel_rfl) (fun _ _ _ h => h) (Or.inl ⟨by rfl, ?_⟩) (by assumption) ?_
              rotate_left 1
              · intro w hSw; (try dsimp only at hSw); go_simp; try (with_reducible rfl)
              try simp only [Act.put, List.setIfInBounds_toArray, List.set_cons_zero, List.set_cons_succ]
              refine wpAnyH_take (i := 9) (oi := { dst := some 84, op := Op.move (Operand.tmp 83), type := 4, pos := "ref.go:74", after := #[{ on := 8, ground := Ground.data }, { on := 4, ground := Ground.chain }], guard := none }) (v := ?_) rfl (by kernel_rfl) (by kernel_rfl) (by kernel_rfl) (fun _ _ _ h => h) (Or.inl ⟨by rfl, ?_⟩) (by assumption) ?_
              rotate_left 1
              · intro w hSw; (try dsimp only at hSw); go_simp; try (with_reducible rfl)
              try simp only [Act.put, List.setIfInBounds_toArray, List.set_cons_zero, List.set_cons_succ]
              refine wpAnyH_take (i := 10) (oi := { dst := some 85, op := Op.fieldAddr 24 (Operand.tmp 1) 4, type := 0, pos := "ref.go:74", after := #[{ on := 9, ground := Ground.guard }], guard := some (9, false) }) (v := ?_) rfl (by kernel_rfl) (by kernel_rfl) (by kernel_rfl) (fun _ _ _ h => h) (Or.inl ⟨by rfl, ?_⟩) (by assumption) ?_
              rotate_left 1
              · intro w hSw; (try dsimp only at hSw); go_simp; try (with_reducible rfl)
              try simp only [Act.put, List.setIfInBounds_toArray, List.set_cons_zero, List.set_cons_succ]
              refine wpAnyH_take (i := 11) (oi := { dst := some 86, op := Op.load 21 (Operand.tmp 85), type := 21, pos := "ref.go:74", after := #[{ on := 10, ground := Ground.data }, { on := 9, ground := Ground.guard }], guard := some (9, false) }) (v := ?_) rfl (by kernel_rfl) (by kernel_rfl) (by kernel_rfl) (fun _ _ _ h => h) (Or.inl ⟨by rfl, ?_⟩) (by assumption) ?_
              rotate_left 1
              · intro w hSw; (try dsimp only at hSw); go_simp; try (with_reducible rfl)
              try simp only [Act.put, List.setIfInBounds_toArray, List.set_cons_zero, List.set_cons_succ]
              refine wpAnyH_take (i := 12) (oi := { dst := some 87, op := Op.binOp BinOp.eql 21 (Operand.tmp 86) (Operand.const (Value.int IntKind.i32 80)) 21, type := 4, pos := "ref.go:74", after := #[{ on := 11, ground := Ground.data }, { on := 9, ground := Ground.guard }], guard := some (9, false) }) (v := ?_) rfl (by kernel_rfl) (by kernel_rfl) (by kernel_rfl) (fun _ _ _ h => h) (Or.inl ⟨by rfl, ?_⟩) (by assumption) ?_
              rotate_left 1
              · intro w hSw; (try dsimp only at hSw); go_simp; try (with_reducible rfl)
              try simp only [Act.put, List.setIfInBounds_toArray, List.set_cons_zero, List.set_cons_succ]
              refine wpAnyH_take (i := 13) (oi := { dst := some 88, op := Op.pick (Operand.tmp 84) (Operand.const (Value.bool true)) (Operand.tmp 87), type := 4, pos := "ref.go:74", after := #[{ on := 9, ground := Ground.data }, { on := 12, ground := Ground.data }], guard := none }) (v := ?_) rfl (by kernel_rfl) (by kernel_rfl) (by kernel_rfl) (fun _ _ _ h => h) (Or.inl ⟨by rfl, ?_⟩) (by assumption) ?_
              rotate_left 1
              · intro w hSw; (try dsimp only at hSw); go_simp; try (with_reducible rfl)
              try simp only [Act.put, List.setIfInBounds_toArray, List.set_cons_zero, List.set_cons_succ]
              refine wpAnyH_take (i := 14) (oi := { dst := some 89, op := Op.move (Operand.tmp 88), type := 4, pos := "ref.go:74", after := #[{ on := 13, ground := Ground.data }, { on := 9, ground := Ground.chain }], guard := none }) (v := ?_) rfl (by kernel_rfl) (by kernel_rfl) (by kernel_rfl) (fun _ _ _ h => h) (Or.inl ⟨by rfl, ?_⟩) (by assumption) ?_
              rotate_left 1
              · intro w hSw; (try dsimp only at hSw); go_simp; try (with_reducible rfl)
              try simp only [Act.put, List.setIfInBounds_toArray, List.set_cons_zero, List.set_cons_succ]
              refine wpAnyH_take (i := 15) (oi := { dst := some 90, op := Op.fieldAddr 24 (Operand.tmp 1) 4, type := 0, pos := "ref.go:74", after := #[{ on := 14, ground := Ground.guard }, { on := 19, ground := Ground.gcOnly Departure.lateStores }], guard := some (14, false) }) (v := ?_) rfl (by kernel_rfl) (by kernel_rfl) (by kernel_rfl) (fun _ _ _ h => h) (Or.inl ⟨by rfl, ?_⟩) (by assumption) ?_
              rotate_left 1
              · intro w hSw; (try dsimp only at hSw); go_simp; try (with_reducible rfl)
              try simp only [Act.put, List.setIfInBounds_toArray, List.set_cons_zero, List.set_cons_succ]
              refine wpAnyH_take (i := 16) (oi := { dst := some 91, op := Op.load 21 (Operand.tmp 90), type := 21, pos := "ref.go:74", after := #[{ on := 15, ground := Ground.data }, { on := 14, ground := Ground.guard }, { on := 19, ground := Ground.gcOnly Departure.lateStores }], guard := some (14, false) }) (v := ?_) rfl (by kernel_rfl) (by kernel_rfl) (by kernel_rfl) (fun _ _ _ h => h) (Or.inl ⟨by rfl, ?_⟩) (by assumption) ?_
              rotate_left 1
              · intro w hSw; (try dsimp only at hSw); go_simp; try (with_reducible rfl)
              try simp only [Act.put, List.setIfInBounds_toArray, List.set_cons_zero, List.set_cons_succ]
              refine wpAnyH_take (i := 17) (oi := { dst := some 92, op := Op.binOp BinOp.eql 21 (Operand.tmp 91) (Operand.const (Value.int IntKind.i32 160)) 21, type := 4, pos := "ref.go:74", after := #[{ on := 16, ground := Ground.data }, { on := 14, ground := Ground.guard }, { on := 19, ground := Ground.gcOnly Departure.lateStores }], guard := some (14, false) }) (v := ?_) rfl (by kernel_rfl) (by kernel_rfl) (by kernel_rfl) (fun _ _ _ h => h) (Or.inl ⟨by rfl, ?_⟩) (by assumption) ?_
              rotate_left 1
              · intro w hSw; (try dsimp only at hSw); go_simp; try (with_reducible rfl)
              try simp only [Act.put, List.setIfInBounds_toArray, List.set_cons_zero, List.set_cons_succ]
              refine wpAnyH_take (i := 18) (oi := { dst := some 93, op := Op.pick (Operand.tmp 89) (Operand.const (Value.bool true)) (Operand.tmp 92), type := 4, pos := "ref.go:74", after := #[{ on := 14, ground := Ground.data }, { on := 17, ground := Ground.data }, { on := 19, ground := Ground.gcOnly Departure.lateStores }], guard := none }) (v := ?_) rfl (by kernel_rfl) (by kernel_rfl) (by kernel_rfl) (fun _ _ _ h => h) (Or.inl ⟨by rfl, ?_⟩) (by assumption) ?_
              rotate_left 1
              · intro w hSw; (try dsimp only at hSw); go_simp; try (with_reducible rfl)
              try simp only [Act.put, List.setIfInBounds_toArray, List.set_cons_zero, List.set_cons_succ]
              obtain ⟨f0, f1, f2, f3, f4, f5⟩ := Q.out.1.2.2.free
              obtain ⟨z0, z1, z2, z3, z4, z5⟩ := Q.out.1.2.2.cells
              refine wpAnyH_ready (rs := [19]) (by kernel_rfl) (by simp) ?_
              refine AllReadyH.cons (o := { dst := none, op := Op.store 26 (Operand.tmp 2) (Operand.tmp 75), type := 0, pos := "ref.go:74", after := #[{ on := 0, ground := Ground.data }, { on := 14, ground := Ground.chain }, { on := 0, ground := Ground.phase }, { on := 1, ground := Ground.textOnly Departure.lateStores }, { on := 2, ground := Ground.textOnly Departure.lateStores }, { on := 3, ground := Ground.textOnly Departure.lateStores }, { on := 4, ground := Ground.textOnly Departure.lateStores }, { on := 5, ground := Ground.textOnly Departure.lateStores }, { on := 6, ground := Ground.textOnly Departure.lateStores }, { on := 7, ground := Ground.textOnly Departure.lateStores }, { on := 8, ground := Ground.textOnly Departure.lateStores }, { on := 9, ground := Ground.textOnly Departure.lateStores }, { on := 10, ground := Ground.textOnly Departure.lateStores }, { on := 11, ground := Ground.textOnly Departure.lateStores }, { on := 12, ground := Ground.textOnly Departure.lateStores }, { on := 13, ground := Ground.textOnly Departure.lateStores }, { on := 14, ground := Ground.textOnly Departure.lateStores }, { on := 15, ground := Ground.textOnly Departure.lateStores }, { on := 16, ground := Ground.textOnly Departure.lateStores }, { on := 17, ground := Ground.textOnly Departure.lateStores }, { on := 18, ground := Ground.textOnly Departure.lateStores }], guard := none }) rfl (fun K hK => ?_) AllReadyH.nil
              go_simp
              replace PD := Lib.hid (And.intro ((Q.out.1.set (⟨8, oo, false, true, false, 4⟩ : Wh)).after (Below.drew (Below.refl _ _))) ((Q.out.2.whs (k := w.heap.size + 1) (⟨8, oo, false, true, false, 4⟩ : Wh) (by omega)).after (Below.drew (Below.refl _ _))))
              clear f0 f1 f2 f3 f4 f5 z0 z1 z2 z3 z4 z5
              refine hK.out _ _ (H.out _ _ PD.out) (fun hHeld => ?_)
              clear hK K
              try simp only [Act.put, List.setIfInBounds_toArray, List.set_cons_zero, List.set_cons_succ]
              refine wpAnyH_take (i := 20) (oi := { dst := some 3, op := Op.assign (Operand.tmp 93), type := 4, pos := "ref.go:74", after := #[{ on := 18, ground := Ground.data }, { on := 19, ground := Ground.chain }, { on := 0, ground := Ground.phase }, { on := 1, ground := Ground.phase }, { on := 2, ground := Ground.phase }, { on := 3, ground := Ground.phase }, { on := 4, ground := Ground.phase }, { on := 5, ground := Ground.phase }, { on := 6, ground := Ground.phase }, { on := 7, ground := Ground.phase }, { on := 8, ground := Ground.phase }, { on := 9, ground := Ground.phase }, { on := 10, ground := Ground.phase }, { on := 11, ground := Ground.phase }, { on := 12, ground := Ground.phase }, { on := 13, ground := Ground.phase }, { on := 14, ground := Ground.phase }, { on := 15, ground := Ground.phase }, { on := 16, ground := Ground.phase }, { on := 17, ground := Ground.phase }, { on := 18, ground := Ground.phase }, { on := 19, ground := Ground.phase }], guard := none }) (v := ?_) rfl (by kernel_rfl) (by kernel_rfl) (by kernel_rfl) (fun _ _ _ h => h) (Or.inl ⟨by rfl, ?_⟩) (by assumption) ?_
              rotate_left 1
              · intro w hSw; (try dsimp only at hSw); go_simp; try (with_reducible rfl)
              try simp only [Act.put, List.setIfInBounds_toArray, List.set_cons_zero, List.set_cons_succ]
              refine wpAnyH_done (by kernel_rfl) ?_ _
              have BB := Lib.hid PD.out.1.1
              obtain ⟨z0, z1, z2, z3, z4, z5⟩ := PD.out.1.2.2.cells
              clear H PD
              go_wp2_with fail
              exact bodyPost_ret (v := .tuple #[whV (⟨8, oo, false, true, false, 4⟩ : Wh), .bool false]) (by simp [results, Try.results62, go_sem, z0, z1, z2, z3, z4, z5]) rfl ⟨by first | rfl | rw [E.out], BB.out⟩
            · skip
              have E : Hid ((x.imm == 0 || x.imm == 64 || x.imm == 80 || x.imm == 160) = true) := Lib.hid (by simp [t0, t1, t2, t3])
              go_upto_region 16 with fail
              refine wp_region_held_drew (S := (fun w' => (w'.cell? ⟨w.heap.size, 0, none⟩ = some (.int .u8 x.op) ∧ w'.cell? ⟨w.heap.size, 1, none⟩ = some (.int .u8 x.dst) ∧ w'.cell? ⟨w.heap.size, 2, none⟩ = some (.int .u8 x.src) ∧ w'.cell? ⟨w.heap.size, 3, none⟩ = some (.int .i16 x.off) ∧ w'.cell? ⟨w.heap.size, 4, none⟩ = some (.int .i32 x.imm)) ∧ (w'.cell? ⟨gb, 0, none⟩ = some (.int .u8 (⟨8, oo, false, true, false, 4⟩ : Wh).kind) ∧ w'.cell? ⟨gb, 1, none⟩ = some (.int .u8 (⟨8, oo, false, true, false, 4⟩ : Wh).op) ∧ w'.cell? ⟨gb, 2, none⟩ = some (.bool (⟨8, oo, false, true, false, 4⟩ : Wh).wide) ∧ w'.cell? ⟨gb, 3, none⟩ = some (.bool (⟨8, oo, false, true, false, 4⟩ : Wh).reg) ∧ w'.cell? ⟨gb, 4, none⟩ = some (.bool (⟨8, oo, false, true, false, 4⟩ : Wh).signed) ∧ w'.cell? ⟨gb, 5, none⟩ = some (.int .i64 (⟨8, oo, false, true, false, 4⟩ : Wh).size)))) (by kernel_rfl) (H.out _ _ PD.out) (fun hHeld => ?_)
              refine wpAnyH_take (i := 0) (oi := { dst := some 75, op := Op.load 26 (Operand.tmp 8), type := 26, pos := "ref.go:74", after := #[], guard := none }) (v := ?_) rfl (by kernel_rfl) (by kernel_rfl) (by kernel_rfl) (fun _ _ _ h => h) (Or.inl ⟨by rfl, ?_⟩) (by assumption) ?_
              rotate_left 1
              · intro w hSw; (try dsimp only at hSw); go_simp; try (with_reducible rfl)
              try simp only [Act.put, List.setIfInBounds_toArray, List.set_cons_zero, List.set_cons_succ]
              refine wpAnyH_take (i := 1) (oi := { dst := some 76, op := Op.fieldAddr 24 (Operand.tmp 1) 4, type := 0, pos := "ref.go:74", after := #[], guard := none }) (v := ?_) rfl (by kernel_rfl) (by kernel_rfl) (by kernel_rfl) (fun _ _ _ h => h) (Or.inl ⟨by rfl, ?_⟩) (by assumption) ?_
              rotate_left 1
              · intro w hSw; (try dsimp only at hSw); go_simp; try (with_reducible rfl)
              try simp only [Act.put, List.setIfInBounds_toArray, List.set_cons_zero, List.set_cons_succ]
              refine wpAnyH_take (i := 2) (oi := { dst := some 77, op := Op.load 21 (Operand.tmp 76), type := 21, pos := "ref.go:74", after := #[{ on := 1, ground := Ground.data }], guard := none }) (v := ?_) rfl (by kernel_rfl) (by kernel_rfl) (by kernel_rfl) (fun _ _ _ h => h) (Or.inl ⟨by rfl, ?_⟩) (by assumption) ?_
              rotate_left 1
              · intro w hSw; (try dsimp only at hSw); go_simp; try (with_reducible rfl)
              try simp only [Act.put, List.setIfInBounds_toArray, List.set_cons_zero, List.set_cons_succ]
              refine wpAnyH_take (i := 3) (oi := { dst := some 78, op := Op.binOp BinOp.eql 21 (Operand.tmp 77) (Operand.const (Value.int IntKind.i32 0)) 21, type := 4, pos := "ref.go:74", after := #[{ on := 2, ground := Ground.data }], guard := none }) (v := ?_) rfl (by kernel_rfl) (by kernel_rfl) (by kernel_rfl) (fun _ _ _ h => h) (Or.inl ⟨by rfl, ?_⟩) (by assumption) ?_
              rotate_left 1
              · intro w hSw; (try dsimp only at hSw); go_simp; try (with_reducible rfl)
              try simp only [Act.put, List.setIfInBounds_toArray, List.set_cons_zero, List.set_cons_succ]
              refine wpAnyH_take (i := 4) (oi := { dst := some 79, op := Op.move (Operand.tmp 78), type := 4, pos := "ref.go:74", after := #[{ on := 3, ground := Ground.data }], guard := none }) (v := ?_) rfl (by kernel_rfl) (by kernel_rfl) (by kernel_rfl) (fun _ _ _ h => h) (Or.inl ⟨by rfl, ?_⟩) (by assumption) ?_
              rotate_left 1
              · intro w hSw; (try dsimp only at hSw); go_simp; try (with_reducible rfl)
              try simp only [Act.put, List.setIfInBounds_toArray, List.set_cons_zero, List.set_cons_succ]
              refine wpAnyH_take (i := 5) (oi := { dst := some 80, op := Op.fieldAddr 24 (Operand.tmp 1) 4, type := 0, pos := "ref.go:74", after := #[{ on := 4, ground := Ground.guard }], guard := some (4, false) }) (v := ?_) rfl (by kernel_rfl) (by kernel_rfl) (by kernel_rfl) (fun _ _ _ h => h) (Or.inl ⟨by rfl, ?_⟩) (by assumption) ?_
              rotate_left 1
              · intro w hSw; (try dsimp only at hSw); go_simp; try (with_reducible rfl)
              try simp only [Act.put, List.setIfInBounds_toArray, List.set_cons_zero, List.set_cons_succ]
              refine wpAnyH_take (i := 6) (oi := { dst := some 81, op := Op.load 21 (Operand.tmp 80), type := 21, pos := "ref.go:74", after := #[{ on := 5, ground := Ground.data }, { on := 4, ground := Ground.guard }], guard := some (4, false) }) (v := ?_) rfl (by kernel_rfl) (by kernel_rfl) (by kernel_rfl) (fun _ _ _ h => h) (Or.inl ⟨by rfl, ?_⟩) (by assumption) ?_
              rotate_left 1
              · intro w hSw; (try dsimp only at hSw); go_simp; try (with_reducible rfl)
              try simp only [Act.put, List.setIfInBounds_toArray, List.set_cons_zero, List.set_cons_succ]
              refine wpAnyH_take (i := 7) (oi := { dst := some 82, op := Op.binOp BinOp.eql 21 (Operand.tmp 81) (Operand.const (Value.int IntKind.i32 64)) 21, type := 4, pos := "ref.go:74", after := #[{ on := 6, ground := Ground.data }, { on := 4, ground := Ground.guard }], guard := some (4, false) }) (v := ?_) rfl (by kernel_rfl) (by kernel_rfl) (by kernel_rfl) (fun _ _ _ h => h) (Or.inl ⟨by rfl, ?_⟩) (by assumption) ?_
              rotate_left 1
              · intro w hSw; (try dsimp only at hSw); go_simp; try (with_reducible rfl)
              try simp only [Act.put, List.setIfInBounds_toArray, List.set_cons_zero, List.set_cons_succ]
              refine wpAnyH_take (i := 8) (oi := { dst := some 83, op := Op.pick (Operand.tmp 79) (Operand.const (Value.bool true)) (Operand.tmp 82), type := 4, pos := "ref.go:74", after := #[{ on := 4, ground := Ground.data }, { on := 7, ground := Ground.data }], guard := none }) (v := ?_) rfl (by kernel_rfl) (by kernel_rfl) (by kernel_rfl) (fun _ _ _ h => h) (Or.inl ⟨by rfl, ?_⟩) (by assumption) ?_
              rotate_left 1
              · intro w hSw; (try dsimp only at hSw); go_simp; try (with_reducible rfl)
              try simp only [Act.put, List.setIfInBounds_toArray, List.set_cons_zero, List.set_cons_succ]
              refine wpAnyH_take (i := 9) (oi := { dst := some 84, op := Op.move (Operand.tmp 83), type := 4, pos := "ref.go:74", after := #[{ on := 8, ground := Ground.data }, { on := 4, ground := Ground.chain }], guard := none }) (v := ?_) rfl (by kernel_rfl) (by kernel_rfl) (by kernel_rfl) (fun _ _ _ h => h) (Or.inl ⟨by rfl, ?_⟩) (by assumption) ?_
              rotate_left 1
              · intro w hSw; (try dsimp only at hSw); go_simp; try (with_reducible rfl)
              try simp only [Act.put, List.setIfInBounds_toArray, List.set_cons_zero, List.set_cons_succ]
              refine wpAnyH_take (i := 10) (oi := { dst := some 85, op := Op.fieldAddr 24 (Operand.tmp 1) 4, type := 0, pos := "ref.go:74", after := #[{ on := 9, ground := Ground.guard }], guard := some (9, false) }) (v := ?_) rfl (by kernel_rfl) (by kernel_rfl) (by kernel_rfl) (fun _ _ _ h => h) (Or.inl ⟨by rfl, ?_⟩) (by assumption) ?_
              rotate_left 1
              · intro w hSw; (try dsimp only at hSw); go_simp; try (with_reducible rfl)
              try simp only [Act.put, List.setIfInBounds_toArray, List.set_cons_zero, List.set_cons_succ]
              refine wpAnyH_take (i := 11) (oi := { dst := some 86, op := Op.load 21 (Operand.tmp 85), type := 21, pos := "ref.go:74", after := #[{ on := 10, ground := Ground.data }, { on := 9, ground := Ground.guard }], guard := some (9, false) }) (v := ?_) rfl (by kernel_rfl) (by kernel_rfl) (by kernel_rfl) (fun _ _ _ h => h) (Or.inl ⟨by rfl, ?_⟩) (by assumption) ?_
              rotate_left 1
              · intro w hSw; (try dsimp only at hSw); go_simp; try (with_reducible rfl)
              try simp only [Act.put, List.setIfInBounds_toArray, List.set_cons_zero, List.set_cons_succ]
              refine wpAnyH_take (i := 12) (oi := { dst := some 87, op := Op.binOp BinOp.eql 21 (Operand.tmp 86) (Operand.const (Value.int IntKind.i32 80)) 21, type := 4, pos := "ref.go:74", after := #[{ on := 11, ground := Ground.data }, { on := 9, ground := Ground.guard }], guard := some (9, false) }) (v := ?_) rfl (by kernel_rfl) (by kernel_rfl) (by kernel_rfl) (fun _ _ _ h => h) (Or.inl ⟨by rfl, ?_⟩) (by assumption) ?_
              rotate_left 1
              · intro w hSw; (try dsimp only at hSw); go_simp; try (with_reducible rfl)
              try simp only [Act.put, List.setIfInBounds_toArray, List.set_cons_zero, List.set_cons_succ]
              refine wpAnyH_take (i := 13) (oi := { dst := some 88, op := Op.pick (Operand.tmp 84) (Operand.const (Value.bool true)) (Operand.tmp 87), type := 4, pos := "ref.go:74", after := #[{ on := 9, ground := Ground.data }, { on := 12, ground := Ground.data }], guard := none }) (v := ?_) rfl (by kernel_rfl) (by kernel_rfl) (by kernel_rfl) (fun _ _ _ h => h) (Or.inl ⟨by rfl, ?_⟩) (by assumption) ?_
              rotate_left 1
              · intro w hSw; (try dsimp only at hSw); go_simp; try (with_reducible rfl)
              try simp only [Act.put, List.setIfInBounds_toArray, List.set_cons_zero, List.set_cons_succ]
              refine wpAnyH_take (i := 14) (oi := { dst := some 89, op := Op.move (Operand.tmp 88), type := 4, pos := "ref.go:74", after := #[{ on := 13, ground := Ground.data }, { on := 9, ground := Ground.chain }], guard := none }) (v := ?_) rfl (by kernel_rfl) (by kernel_rfl) (by kernel_rfl) (fun _ _ _ h => h) (Or.inl ⟨by rfl, ?_⟩) (by assumption) ?_
              rotate_left 1
              · intro w hSw; (try dsimp only at hSw); go_simp; try (with_reducible rfl)
              try simp only [Act.put, List.setIfInBounds_toArray, List.set_cons_zero, List.set_cons_succ]
              refine wpAnyH_take (i := 15) (oi := { dst := some 90, op := Op.fieldAddr 24 (Operand.tmp 1) 4, type := 0, pos := "ref.go:74", after := #[{ on := 14, ground := Ground.guard }, { on := 19, ground := Ground.gcOnly Departure.lateStores }], guard := some (14, false) }) (v := ?_) rfl (by kernel_rfl) (by kernel_rfl) (by kernel_rfl) (fun _ _ _ h => h) (Or.inl ⟨by rfl, ?_⟩) (by assumption) ?_
              rotate_left 1
              · intro w hSw; (try dsimp only at hSw); go_simp; try (with_reducible rfl)
              try simp only [Act.put, List.setIfInBounds_toArray, List.set_cons_zero, List.set_cons_succ]
              refine wpAnyH_take (i := 16) (oi := { dst := some 91, op := Op.load 21 (Operand.tmp 90), type := 21, pos := "ref.go:74", after := #[{ on := 15, ground := Ground.data }, { on := 14, ground := Ground.guard }, { on := 19, ground := Ground.gcOnly Departure.lateStores }], guard := some (14, false) }) (v := ?_) rfl (by kernel_rfl) (by kernel_rfl) (by kernel_rfl) (fun _ _ _ h => h) (Or.inl ⟨by rfl, ?_⟩) (by assumption) ?_
              rotate_left 1
              · intro w hSw; (try dsimp only at hSw); go_simp; try (with_reducible rfl)
              try simp only [Act.put, List.setIfInBounds_toArray, List.set_cons_zero, List.set_cons_succ]
              refine wpAnyH_take (i := 17) (oi := { dst := some 92, op := Op.binOp BinOp.eql 21 (Operand.tmp 91) (Operand.const (Value.int IntKind.i32 160)) 21, type := 4, pos := "ref.go:74", after := #[{ on := 16, ground := Ground.data }, { on := 14, ground := Ground.guard }, { on := 19, ground := Ground.gcOnly Departure.lateStores }], guard := some (14, false) }) (v := ?_) rfl (by kernel_rfl) (by kernel_rfl) (by kernel_rfl) (fun _ _ _ h => h) (Or.inl ⟨by rfl, ?_⟩) (by assumption) ?_
              rotate_left 1
              · intro w hSw; (try dsimp only at hSw); go_simp; try (with_reducible rfl)
              try simp only [Act.put, List.setIfInBounds_toArray, List.set_cons_zero, List.set_cons_succ]
              refine wpAnyH_take (i := 18) (oi := { dst := some 93, op := Op.pick (Operand.tmp 89) (Operand.const (Value.bool true)) (Operand.tmp 92), type := 4, pos := "ref.go:74", after := #[{ on := 14, ground := Ground.data }, { on := 17, ground := Ground.data }, { on := 19, ground := Ground.gcOnly Departure.lateStores }], guard := none }) (v := ?_) rfl (by kernel_rfl) (by kernel_rfl) (by kernel_rfl) (fun _ _ _ h => h) (Or.inl ⟨by rfl, ?_⟩) (by assumption) ?_
              rotate_left 1
              · intro w hSw; (try dsimp only at hSw); go_simp; try (with_reducible rfl)
              try simp only [Act.put, List.setIfInBounds_toArray, List.set_cons_zero, List.set_cons_succ]
              obtain ⟨f0, f1, f2, f3, f4, f5⟩ := Q.out.1.2.2.free
              obtain ⟨z0, z1, z2, z3, z4, z5⟩ := Q.out.1.2.2.cells
              refine wpAnyH_ready (rs := [19]) (by kernel_rfl) (by simp) ?_
              refine AllReadyH.cons (o := { dst := none, op := Op.store 26 (Operand.tmp 2) (Operand.tmp 75), type := 0, pos := "ref.go:74", after := #[{ on := 0, ground := Ground.data }, { on := 14, ground := Ground.chain }, { on := 0, ground := Ground.phase }, { on := 1, ground := Ground.textOnly Departure.lateStores }, { on := 2, ground := Ground.textOnly Departure.lateStores }, { on := 3, ground := Ground.textOnly Departure.lateStores }, { on := 4, ground := Ground.textOnly Departure.lateStores }, { on := 5, ground := Ground.textOnly Departure.lateStores }, { on := 6, ground := Ground.textOnly Departure.lateStores }, { on := 7, ground := Ground.textOnly Departure.lateStores }, { on := 8, ground := Ground.textOnly Departure.lateStores }, { on := 9, ground := Ground.textOnly Departure.lateStores }, { on := 10, ground := Ground.textOnly Departure.lateStores }, { on := 11, ground := Ground.textOnly Departure.lateStores }, { on := 12, ground := Ground.textOnly Departure.lateStores }, { on := 13, ground := Ground.textOnly Departure.lateStores }, { on := 14, ground := Ground.textOnly Departure.lateStores }, { on := 15, ground := Ground.textOnly Departure.lateStores }, { on := 16, ground := Ground.textOnly Departure.lateStores }, { on := 17, ground := Ground.textOnly Departure.lateStores }, { on := 18, ground := Ground.textOnly Departure.lateStores }], guard := none }) rfl (fun K hK => ?_) AllReadyH.nil
              go_simp
              replace PD := Lib.hid (And.intro ((Q.out.1.set (⟨8, oo, false, true, false, 4⟩ : Wh)).after (Below.drew (Below.refl _ _))) ((Q.out.2.whs (k := w.heap.size + 1) (⟨8, oo, false, true, false, 4⟩ : Wh) (by omega)).after (Below.drew (Below.refl _ _))))
              clear f0 f1 f2 f3 f4 f5 z0 z1 z2 z3 z4 z5
              refine hK.out _ _ (H.out _ _ PD.out) (fun hHeld => ?_)
              clear hK K
              try simp only [Act.put, List.setIfInBounds_toArray, List.set_cons_zero, List.set_cons_succ]
              refine wpAnyH_take (i := 20) (oi := { dst := some 3, op := Op.assign (Operand.tmp 93), type := 4, pos := "ref.go:74", after := #[{ on := 18, ground := Ground.data }, { on := 19, ground := Ground.chain }, { on := 0, ground := Ground.phase }, { on := 1, ground := Ground.phase }, { on := 2, ground := Ground.phase }, { on := 3, ground := Ground.phase }, { on := 4, ground := Ground.phase }, { on := 5, ground := Ground.phase }, { on := 6, ground := Ground.phase }, { on := 7, ground := Ground.phase }, { on := 8, ground := Ground.phase }, { on := 9, ground := Ground.phase }, { on := 10, ground := Ground.phase }, { on := 11, ground := Ground.phase }, { on := 12, ground := Ground.phase }, { on := 13, ground := Ground.phase }, { on := 14, ground := Ground.phase }, { on := 15, ground := Ground.phase }, { on := 16, ground := Ground.phase }, { on := 17, ground := Ground.phase }, { on := 18, ground := Ground.phase }, { on := 19, ground := Ground.phase }], guard := none }) (v := ?_) rfl (by kernel_rfl) (by kernel_rfl) (by kernel_rfl) (fun _ _ _ h => h) (Or.inl ⟨by rfl, ?_⟩) (by assumption) ?_
              rotate_left 1
              · intro w hSw; (try dsimp only at hSw); go_simp; try (with_reducible rfl)
              try simp only [Act.put, List.setIfInBounds_toArray, List.set_cons_zero, List.set_cons_succ]
              refine wpAnyH_done (by kernel_rfl) ?_ _
              have BB := Lib.hid PD.out.1.1
              obtain ⟨z0, z1, z2, z3, z4, z5⟩ := PD.out.1.2.2.cells
              clear H PD
              go_wp2_with fail
              exact bodyPost_ret (v := .tuple #[whV (⟨8, oo, false, true, false, 4⟩ : Wh), .bool true]) (by simp [results, Try.results62, go_sem, z0, z1, z2, z3, z4, z5]) rfl ⟨by first | rfl | rw [E.out], BB.out⟩
          · skip
            have E : Hid ((x.imm == 0 || x.imm == 64 || x.imm == 80 || x.imm == 160) = true) := Lib.hid (by simp [t0, t1, t2])
            go_upto_region 16 with fail
            refine wp_region_held_drew (S := (fun w' => (w'.cell? ⟨w.heap.size, 0, none⟩ = some (.int .u8 x.op) ∧ w'.cell? ⟨w.heap.size, 1, none⟩ = some (.int .u8 x.dst) ∧ w'.cell? ⟨w.heap.size, 2, none⟩ = some (.int .u8 x.src) ∧ w'.cell? ⟨w.heap.size, 3, none⟩ = some (.int .i16 x.off) ∧ w'.cell? ⟨w.heap.size, 4, none⟩ = some (.int .i32 x.imm)) ∧ (w'.cell? ⟨gb, 0, none⟩ = some (.int .u8 (⟨8, oo, false, true, false, 4⟩ : Wh).kind) ∧ w'.cell? ⟨gb, 1, none⟩ = some (.int .u8 (⟨8, oo, false, true, false, 4⟩ : Wh).op) ∧ w'.cell? ⟨gb, 2, none⟩ = some (.bool (⟨8, oo, false, true, false, 4⟩ : Wh).wide) ∧ w'.cell? ⟨gb, 3, none⟩ = some (.bool (⟨8, oo, false, true, false, 4⟩ : Wh).reg) ∧ w'.cell? ⟨gb, 4, none⟩ = some (.bool (⟨8, oo, false, true, false, 4⟩ : Wh).signed) ∧ w'.cell? ⟨gb, 5, none⟩ = some (.int .i64 (⟨8, oo, false, true, false, 4⟩ : Wh).size)))) (by kernel_rfl) (H.out _ _ PD.out) (fun hHeld => ?_)
            refine wpAnyH_take (i := 0) (oi := { dst := some 75, op := Op.load 26 (Operand.tmp 8), type := 26, pos := "ref.go:74", after := #[], guard := none }) (v := ?_) rfl (by kernel_rfl) (by kernel_rfl) (by kernel_rfl) (fun _ _ _ h => h) (Or.inl ⟨by rfl, ?_⟩) (by assumption) ?_
            rotate_left 1
            · intro w hSw; (try dsimp only at hSw); go_simp; try (with_reducible rfl)
            try simp only [Act.put, List.setIfInBounds_toArray, List.set_cons_zero, List.set_cons_succ]
            refine wpAnyH_take (i := 1) (oi := { dst := some 76, op := Op.fieldAddr 24 (Operand.tmp 1) 4, type := 0, pos := "ref.go:74", after := #[], guard := none }) (v := ?_) rfl (by kernel_rfl) (by kernel_rfl) (by kernel_rfl) (fun _ _ _ h => h) (Or.inl ⟨by rfl, ?_⟩) (by assumption) ?_
            rotate_left 1
            · intro w hSw; (try dsimp only at hSw); go_simp; try (with_reducible rfl)
            try simp only [Act.put, List.setIfInBounds_toArray, List.set_cons_zero, List.set_cons_succ]
            refine wpAnyH_take (i := 2) (oi := { dst := some 77, op := Op.load 21 (Operand.tmp 76), type := 21, pos := "ref.go:74", after := #[{ on := 1, ground := Ground.data }], guard := none }) (v := ?_) rfl (by kernel_rfl) (by kernel_rfl) (by kernel_rfl) (fun _ _ _ h => h) (Or.inl ⟨by rfl, ?_⟩) (by assumption) ?_
            rotate_left 1
            · intro w hSw; (try dsimp only at hSw); go_simp; try (with_reducible rfl)
            try simp only [Act.put, List.setIfInBounds_toArray, List.set_cons_zero, List.set_cons_succ]
            refine wpAnyH_take (i := 3) (oi := { dst := some 78, op := Op.binOp BinOp.eql 21 (Operand.tmp 77) (Operand.const (Value.int IntKind.i32 0)) 21, type := 4, pos := "ref.go:74", after := #[{ on := 2, ground := Ground.data }], guard := none }) (v := ?_) rfl (by kernel_rfl) (by kernel_rfl) (by kernel_rfl) (fun _ _ _ h => h) (Or.inl ⟨by rfl, ?_⟩) (by assumption) ?_
            rotate_left 1
            · intro w hSw; (try dsimp only at hSw); go_simp; try (with_reducible rfl)
            try simp only [Act.put, List.setIfInBounds_toArray, List.set_cons_zero, List.set_cons_succ]
            refine wpAnyH_take (i := 4) (oi := { dst := some 79, op := Op.move (Operand.tmp 78), type := 4, pos := "ref.go:74", after := #[{ on := 3, ground := Ground.data }], guard := none }) (v := ?_) rfl (by kernel_rfl) (by kernel_rfl) (by kernel_rfl) (fun _ _ _ h => h) (Or.inl ⟨by rfl, ?_⟩) (by assumption) ?_
            rotate_left 1
            · intro w hSw; (try dsimp only at hSw); go_simp; try (with_reducible rfl)
            try simp only [Act.put, List.setIfInBounds_toArray, List.set_cons_zero, List.set_cons_succ]
            refine wpAnyH_take (i := 5) (oi := { dst := some 80, op := Op.fieldAddr 24 (Operand.tmp 1) 4, type := 0, pos := "ref.go:74", after := #[{ on := 4, ground := Ground.guard }], guard := some (4, false) }) (v := ?_) rfl (by kernel_rfl) (by kernel_rfl) (by kernel_rfl) (fun _ _ _ h => h) (Or.inl ⟨by rfl, ?_⟩) (by assumption) ?_
            rotate_left 1
            · intro w hSw; (try dsimp only at hSw); go_simp; try (with_reducible rfl)
            try simp only [Act.put, List.setIfInBounds_toArray, List.set_cons_zero, List.set_cons_succ]
            refine wpAnyH_take (i := 6) (oi := { dst := some 81, op := Op.load 21 (Operand.tmp 80), type := 21, pos := "ref.go:74", after := #[{ on := 5, ground := Ground.data }, { on := 4, ground := Ground.guard }], guard := some (4, false) }) (v := ?_) rfl (by kernel_rfl) (by kernel_rfl) (by kernel_rfl) (fun _ _ _ h => h) (Or.inl ⟨by rfl, ?_⟩) (by assumption) ?_
            rotate_left 1
            · intro w hSw; (try dsimp only at hSw); go_simp; try (with_reducible rfl)
            try simp only [Act.put, List.setIfInBounds_toArray, List.set_cons_zero, List.set_cons_succ]
            refine wpAnyH_take (i := 7) (oi := { dst := some 82, op := Op.binOp BinOp.eql 21 (Operand.tmp 81) (Operand.const (Value.int IntKind.i32 64)) 21, type := 4, pos := "ref.go:74", after := #[{ on := 6, ground := Ground.data }, { on := 4, ground := Ground.guard }], guard := some (4, false) }) (v := ?_) rfl (by kernel_rfl) (by kernel_rfl) (by kernel_rfl) (fun _ _ _ h => h) (Or.inl ⟨by rfl, ?_⟩) (by assumption) ?_
            rotate_left 1
            · intro w hSw; (try dsimp only at hSw); go_simp; try (with_reducible rfl)
            try simp only [Act.put, List.setIfInBounds_toArray, List.set_cons_zero, List.set_cons_succ]
            refine wpAnyH_take (i := 8) (oi := { dst := some 83, op := Op.pick (Operand.tmp 79) (Operand.const (Value.bool true)) (Operand.tmp 82), type := 4, pos := "ref.go:74", after := #[{ on := 4, ground := Ground.data }, { on := 7, ground := Ground.data }], guard := none }) (v := ?_) rfl (by kernel_rfl) (by kernel_rfl) (by kernel_rfl) (fun _ _ _ h => h) (Or.inl ⟨by rfl, ?_⟩) (by assumption) ?_
            rotate_left 1
            · intro w hSw; (try dsimp only at hSw); go_simp; try (with_reducible rfl)
            try simp only [Act.put, List.setIfInBounds_toArray, List.set_cons_zero, List.set_cons_succ]
            refine wpAnyH_take (i := 9) (oi := { dst := some 84, op := Op.move (Operand.tmp 83), type := 4, pos := "ref.go:74", after := #[{ on := 8, ground := Ground.data }, { on := 4, ground := Ground.chain }], guard := none }) (v := ?_) rfl (by kernel_rfl) (by kernel_rfl) (by kernel_rfl) (fun _ _ _ h => h) (Or.inl ⟨by rfl, ?_⟩) (by assumption) ?_
            rotate_left 1
            · intro w hSw; (try dsimp only at hSw); go_simp; try (with_reducible rfl)
            try simp only [Act.put, List.setIfInBounds_toArray, List.set_cons_zero, List.set_cons_succ]
            refine wpAnyH_take (i := 10) (oi := { dst := some 85, op := Op.fieldAddr 24 (Operand.tmp 1) 4, type := 0, pos := "ref.go:74", after := #[{ on := 9, ground := Ground.guard }], guard := some (9, false) }) (v := ?_) rfl (by kernel_rfl) (by kernel_rfl) (by kernel_rfl) (fun _ _ _ h => h) (Or.inl ⟨by rfl, ?_⟩) (by assumption) ?_
            rotate_left 1
            · intro w hSw; (try dsimp only at hSw); go_simp; try (with_reducible rfl)
            try simp only [Act.put, List.setIfInBounds_toArray, List.set_cons_zero, List.set_cons_succ]
            refine wpAnyH_take (i := 11) (oi := { dst := some 86, op := Op.load 21 (Operand.tmp 85), type := 21, pos := "ref.go:74", after := #[{ on := 10, ground := Ground.data }, { on := 9, ground := Ground.guard }], guard := some (9, false) }) (v := ?_) rfl (by kernel_rfl) (by kernel_rfl) (by kernel_rfl) (fun _ _ _ h => h) (Or.inl ⟨by rfl, ?_⟩) (by assumption) ?_
            rotate_left 1
            · intro w hSw; (try dsimp only at hSw); go_simp; try (with_reducible rfl)
            try simp only [Act.put, List.setIfInBounds_toArray, List.set_cons_zero, List.set_cons_succ]
            refine wpAnyH_take (i := 12) (oi := { dst := some 87, op := Op.binOp BinOp.eql 21 (Operand.tmp 86) (Operand.const (Value.int IntKind.i32 80)) 21, type := 4, pos := "ref.go:74", after := #[{ on := 11, ground := Ground.data }, { on := 9, ground := Ground.guard }], guard := some (9, false) }) (v := ?_) rfl (by kernel_rfl) (by kernel_rfl) (by kernel_rfl) (fun _ _ _ h => h) (Or.inl ⟨by rfl, ?_⟩) (by assumption) ?_
            rotate_left 1
            · intro w hSw; (try dsimp only at hSw); go_simp; try (with_reducible rfl)
            try simp only [Act.put, List.setIfInBounds_toArray, List.set_cons_zero, List.set_cons_succ]
            refine wpAnyH_take (i := 13) (oi := { dst := some 88, op := Op.pick (Operand.tmp 84) (Operand.const (Value.bool true)) (Operand.tmp 87), type := 4, pos := "ref.go:74", after := #[{ on := 9, ground := Ground.data }, { on := 12, ground := Ground.data }], guard := none }) (v := ?_) rfl (by kernel_rfl) (by kernel_rfl) (by kernel_rfl) (fun _ _ _ h => h) (Or.inl ⟨by rfl, ?_⟩) (by assumption) ?_
            rotate_left 1
            · intro w hSw; (try dsimp only at hSw); go_simp; try (with_reducible rfl)
            try simp only [Act.put, List.setIfInBounds_toArray, List.set_cons_zero, List.set_cons_succ]
            refine wpAnyH_take (i := 14) (oi := { dst := some 89, op := Op.move (Operand.tmp 88), type := 4, pos := "ref.go:74", after := #[{ on := 13, ground := Ground.data }, { on := 9, ground := Ground.chain }], guard := none }) (v := ?_) rfl (by kernel_rfl) (by kernel_rfl) (by kernel_rfl) (fun _ _ _ h => h) (Or.inl ⟨by rfl, ?_⟩) (by assumption) ?_
            rotate_left 1
            · intro w hSw; (try dsimp only at hSw); go_simp; try (with_reducible rfl)
            try simp only [Act.put, List.setIfInBounds_toArray, List.set_cons_zero, List.set_cons_succ]
            refine wpAnyH_take (i := 15) (oi := { dst := some 90, op := Op.fieldAddr 24 (Operand.tmp 1) 4, type := 0, pos := "ref.go:74", after := #[{ on := 14, ground := Ground.guard }, { on := 19, ground := Ground.gcOnly Departure.lateStores }], guard := some (14, false) }) (v := undef) rfl (by kernel_rfl) (by kernel_rfl) (by kernel_rfl) (fun _ _ _ h => h) (Or.inr ⟨by rfl, rfl⟩) (by assumption) ?_
            try simp only [Act.put, List.setIfInBounds_toArray, List.set_cons_zero, List.set_cons_succ]
            refine wpAnyH_take (i := 16) (oi := { dst := some 91, op := Op.load 21 (Operand.tmp 90), type := 21, pos := "ref.go:74", after := #[{ on := 15, ground := Ground.data }, { on := 14, ground := Ground.guard }, { on := 19, ground := Ground.gcOnly Departure.lateStores }], guard := some (14, false) }) (v := undef) rfl (by kernel_rfl) (by kernel_rfl) (by kernel_rfl) (fun _ _ _ h => h) (Or.inr ⟨by rfl, rfl⟩) (by assumption) ?_
            try simp only [Act.put, List.setIfInBounds_toArray, List.set_cons_zero, List.set_cons_succ]
            refine wpAnyH_take (i := 17) (oi := { dst := some 92, op := Op.binOp BinOp.eql 21 (Operand.tmp 91) (Operand.const (Value.int IntKind.i32 160)) 21, type := 4, pos := "ref.go:74", after := #[{ on := 16, ground := Ground.data }, { on := 14, ground := Ground.guard }, { on := 19, ground := Ground.gcOnly Departure.lateStores }], guard := some (14, false) }) (v := undef) rfl (by kernel_rfl) (by kernel_rfl) (by kernel_rfl) (fun _ _ _ h => h) (Or.inr ⟨by rfl, rfl⟩) (by assumption) ?_
            try simp only [Act.put, List.setIfInBounds_toArray, List.set_cons_zero, List.set_cons_succ]
            refine wpAnyH_take (i := 18) (oi := { dst := some 93, op := Op.pick (Operand.tmp 89) (Operand.const (Value.bool true)) (Operand.tmp 92), type := 4, pos := "ref.go:74", after := #[{ on := 14, ground := Ground.data }, { on := 17, ground := Ground.data }, { on := 19, ground := Ground.gcOnly Departure.lateStores }], guard := none }) (v := ?_) rfl (by kernel_rfl) (by kernel_rfl) (by kernel_rfl) (fun _ _ _ h => h) (Or.inl ⟨by rfl, ?_⟩) (by assumption) ?_
            rotate_left 1
            · intro w hSw; (try dsimp only at hSw); go_simp; try (with_reducible rfl)
            try simp only [Act.put, List.setIfInBounds_toArray, List.set_cons_zero, List.set_cons_succ]
            obtain ⟨f0, f1, f2, f3, f4, f5⟩ := Q.out.1.2.2.free
            obtain ⟨z0, z1, z2, z3, z4, z5⟩ := Q.out.1.2.2.cells
            refine wpAnyH_ready (rs := [19]) (by kernel_rfl) (by simp) ?_
            refine AllReadyH.cons (o := { dst := none, op := Op.store 26 (Operand.tmp 2) (Operand.tmp 75), type := 0, pos := "ref.go:74", after := #[{ on := 0, ground := Ground.data }, { on := 14, ground := Ground.chain }, { on := 0, ground := Ground.phase }, { on := 1, ground := Ground.textOnly Departure.lateStores }, { on := 2, ground := Ground.textOnly Departure.lateStores }, { on := 3, ground := Ground.textOnly Departure.lateStores }, { on := 4, ground := Ground.textOnly Departure.lateStores }, { on := 5, ground := Ground.textOnly Departure.lateStores }, { on := 6, ground := Ground.textOnly Departure.lateStores }, { on := 7, ground := Ground.textOnly Departure.lateStores }, { on := 8, ground := Ground.textOnly Departure.lateStores }, { on := 9, ground := Ground.textOnly Departure.lateStores }, { on := 10, ground := Ground.textOnly Departure.lateStores }, { on := 11, ground := Ground.textOnly Departure.lateStores }, { on := 12, ground := Ground.textOnly Departure.lateStores }, { on := 13, ground := Ground.textOnly Departure.lateStores }, { on := 14, ground := Ground.textOnly Departure.lateStores }, { on := 15, ground := Ground.textOnly Departure.lateStores }, { on := 16, ground := Ground.textOnly Departure.lateStores }, { on := 17, ground := Ground.textOnly Departure.lateStores }, { on := 18, ground := Ground.textOnly Departure.lateStores }], guard := none }) rfl (fun K hK => ?_) AllReadyH.nil
            go_simp
            replace PD := Lib.hid (And.intro ((Q.out.1.set (⟨8, oo, false, true, false, 4⟩ : Wh)).after (Below.drew (Below.refl _ _))) ((Q.out.2.whs (k := w.heap.size + 1) (⟨8, oo, false, true, false, 4⟩ : Wh) (by omega)).after (Below.drew (Below.refl _ _))))
            clear f0 f1 f2 f3 f4 f5 z0 z1 z2 z3 z4 z5
            refine hK.out _ _ (H.out _ _ PD.out) (fun hHeld => ?_)
            clear hK K
            try simp only [Act.put, List.setIfInBounds_toArray, List.set_cons_zero, List.set_cons_succ]
            refine wpAnyH_take (i := 20) (oi := { dst := some 3, op := Op.assign (Operand.tmp 93), type := 4, pos := "ref.go:74", after := #[{ on := 18, ground := Ground.data }, { on := 19, ground := Ground.chain }, { on := 0, ground := Ground.phase }, { on := 1, ground := Ground.phase }, { on := 2, ground := Ground.phase }, { on := 3, ground := Ground.phase }, { on := 4, ground := Ground.phase }, { on := 5, ground := Ground.phase }, { on := 6, ground := Ground.phase }, { on := 7, ground := Ground.phase }, { on := 8, ground := Ground.phase }, { on := 9, ground := Ground.phase }, { on := 10, ground := Ground.phase }, { on := 11, ground := Ground.phase }, { on := 12, ground := Ground.phase }, { on := 13, ground := Ground.phase }, { on := 14, ground := Ground.phase }, { on := 15, ground := Ground.phase }, { on := 16, ground := Ground.phase }, { on := 17, ground := Ground.phase }, { on := 18, ground := Ground.phase }, { on := 19, ground := Ground.phase }], guard := none }) (v := ?_) rfl (by kernel_rfl) (by kernel_rfl) (by kernel_rfl) (fun _ _ _ h => h) (Or.inl ⟨by rfl, ?_⟩) (by assumption) ?_
            rotate_left 1
            · intro w hSw; (try dsimp only at hSw); go_simp; try (with_reducible rfl)
            try simp only [Act.put, List.setIfInBounds_toArray, List.set_cons_zero, List.set_cons_succ]
            refine wpAnyH_done (by kernel_rfl) ?_ _
            have BB := Lib.hid PD.out.1.1
            obtain ⟨z0, z1, z2, z3, z4, z5⟩ := PD.out.1.2.2.cells
            clear H PD
            go_wp2_with fail
            exact bodyPost_ret (v := .tuple #[whV (⟨8, oo, false, true, false, 4⟩ : Wh), .bool true]) (by simp [results, Try.results62, go_sem, z0, z1, z2, z3, z4, z5]) rfl ⟨by first | rfl | rw [E.out], BB.out⟩
        · skip
          have E : Hid ((x.imm == 0 || x.imm == 64 || x.imm == 80 || x.imm == 160) = true) := Lib.hid (by simp [t0, t1])
          go_upto_region 16 with fail
          refine wp_region_held_drew (S := (fun w' => (w'.cell? ⟨w.heap.size, 0, none⟩ = some (.int .u8 x.op) ∧ w'.cell? ⟨w.heap.size, 1, none⟩ = some (.int .u8 x.dst) ∧ w'.cell? ⟨w.heap.size, 2, none⟩ = some (.int .u8 x.src) ∧ w'.cell? ⟨w.heap.size, 3, none⟩ = some (.int .i16 x.off) ∧ w'.cell? ⟨w.heap.size, 4, none⟩ = some (.int .i32 x.imm)) ∧ (w'.cell? ⟨gb, 0, none⟩ = some (.int .u8 (⟨8, oo, false, true, false, 4⟩ : Wh).kind) ∧ w'.cell? ⟨gb, 1, none⟩ = some (.int .u8 (⟨8, oo, false, true, false, 4⟩ : Wh).op) ∧ w'.cell? ⟨gb, 2, none⟩ = some (.bool (⟨8, oo, false, true, false, 4⟩ : Wh).wide) ∧ w'.cell? ⟨gb, 3, none⟩ = some (.bool (⟨8, oo, false, true, false, 4⟩ : Wh).reg) ∧ w'.cell? ⟨gb, 4, none⟩ = some (.bool (⟨8, oo, false, true, false, 4⟩ : Wh).signed) ∧ w'.cell? ⟨gb, 5, none⟩ = some (.int .i64 (⟨8, oo, false, true, false, 4⟩ : Wh).size)))) (by kernel_rfl) (H.out _ _ PD.out) (fun hHeld => ?_)
          refine wpAnyH_take (i := 0) (oi := { dst := some 75, op := Op.load 26 (Operand.tmp 8), type := 26, pos := "ref.go:74", after := #[], guard := none }) (v := ?_) rfl (by kernel_rfl) (by kernel_rfl) (by kernel_rfl) (fun _ _ _ h => h) (Or.inl ⟨by rfl, ?_⟩) (by assumption) ?_
          rotate_left 1
          · intro w hSw; (try dsimp only at hSw); go_simp; try (with_reducible rfl)
          try simp only [Act.put, List.setIfInBounds_toArray, List.set_cons_zero, List.set_cons_succ]
          refine wpAnyH_take (i := 1) (oi := { dst := some 76, op := Op.fieldAddr 24 (Operand.tmp 1) 4, type := 0, pos := "ref.go:74", after := #[], guard := none }) (v := ?_) rfl (by kernel_rfl) (by kernel_rfl) (by kernel_rfl) (fun _ _ _ h => h) (Or.inl ⟨by rfl, ?_⟩) (by assumption) ?_
          rotate_left 1
          · intro w hSw; (try dsimp only at hSw); go_simp; try (with_reducible rfl)
          try simp only [Act.put, List.setIfInBounds_toArray, List.set_cons_zero, List.set_cons_succ]
          refine wpAnyH_take (i := 2) (oi := { dst := some 77, op := Op.load 21 (Operand.tmp 76), type := 21, pos := "ref.go:74", after := #[{ on := 1, ground := Ground.data }], guard := none }) (v := ?_) rfl (by kernel_rfl) (by kernel_rfl) (by kernel_rfl) (fun _ _ _ h => h) (Or.inl ⟨by rfl, ?_⟩) (by assumption) ?_
          rotate_left 1
          · intro w hSw; (try dsimp only at hSw); go_simp; try (with_reducible rfl)
          try simp only [Act.put, List.setIfInBounds_toArray, List.set_cons_zero, List.set_cons_succ]
          refine wpAnyH_take (i := 3) (oi := { dst := some 78, op := Op.binOp BinOp.eql 21 (Operand.tmp 77) (Operand.const (Value.int IntKind.i32 0)) 21, type := 4, pos := "ref.go:74", after := #[{ on := 2, ground := Ground.data }], guard := none }) (v := ?_) rfl (by kernel_rfl) (by kernel_rfl) (by kernel_rfl) (fun _ _ _ h => h) (Or.inl ⟨by rfl, ?_⟩) (by assumption) ?_
          rotate_left 1
          · intro w hSw; (try dsimp only at hSw); go_simp; try (with_reducible rfl)
          try simp only [Act.put, List.setIfInBounds_toArray, List.set_cons_zero, List.set_cons_succ]
          refine wpAnyH_take (i := 4) (oi := { dst := some 79, op := Op.move (Operand.tmp 78), type := 4, pos := "ref.go:74", after := #[{ on := 3, ground := Ground.data }], guard := none }) (v := ?_) rfl (by kernel_rfl) (by kernel_rfl) (by kernel_rfl) (fun _ _ _ h => h) (Or.inl ⟨by rfl, ?_⟩) (by assumption) ?_
          rotate_left 1
          · intro w hSw; (try dsimp only at hSw); go_simp; try (with_reducible rfl)
          try simp only [Act.put, List.setIfInBounds_toArray, List.set_cons_zero, List.set_cons_succ]
          refine wpAnyH_take (i := 5) (oi := { dst := some 80, op := Op.fieldAddr 24 (Operand.tmp 1) 4, type := 0, pos := "ref.go:74", after := #[{ on := 4, ground := Ground.guard }], guard := some (4, false) }) (v := ?_) rfl (by kernel_rfl) (by kernel_rfl) (by kernel_rfl) (fun _ _ _ h => h) (Or.inl ⟨by rfl, ?_⟩) (by assumption) ?_
          rotate_left 1
          · intro w hSw; (try dsimp only at hSw); go_simp; try (with_reducible rfl)
          try simp only [Act.put, List.setIfInBounds_toArray, List.set_cons_zero, List.set_cons_succ]
          refine wpAnyH_take (i := 6) (oi := { dst := some 81, op := Op.load 21 (Operand.tmp 80), type := 21, pos := "ref.go:74", after := #[{ on := 5, ground := Ground.data }, { on := 4, ground := Ground.guard }], guard := some (4, false) }) (v := ?_) rfl (by kernel_rfl) (by kernel_rfl) (by kernel_rfl) (fun _ _ _ h => h) (Or.inl ⟨by rfl, ?_⟩) (by assumption) ?_
          rotate_left 1
          · intro w hSw; (try dsimp only at hSw); go_simp; try (with_reducible rfl)
          try simp only [Act.put, List.setIfInBounds_toArray, List.set_cons_zero, List.set_cons_succ]
          refine wpAnyH_take (i := 7) (oi := { dst := some 82, op := Op.binOp BinOp.eql 21 (Operand.tmp 81) (Operand.const (Value.int IntKind.i32 64)) 21, type := 4, pos := "ref.go:74", after := #[{ on := 6, ground := Ground.data }, { on := 4, ground := Ground.guard }], guard := some (4, false) }) (v := ?_) rfl (by kernel_rfl) (by kernel_rfl) (by kernel_rfl) (fun _ _ _ h => h) (Or.inl ⟨by rfl, ?_⟩) (by assumption) ?_
          rotate_left 1
          · intro w hSw; (try dsimp only at hSw); go_simp; try (with_reducible rfl)
          try simp only [Act.put, List.setIfInBounds_toArray, List.set_cons_zero, List.set_cons_succ]
          refine wpAnyH_take (i := 8) (oi := { dst := some 83, op := Op.pick (Operand.tmp 79) (Operand.const (Value.bool true)) (Operand.tmp 82), type := 4, pos := "ref.go:74", after := #[{ on := 4, ground := Ground.data }, { on := 7, ground := Ground.data }], guard := none }) (v := ?_) rfl (by kernel_rfl) (by kernel_rfl) (by kernel_rfl) (fun _ _ _ h => h) (Or.inl ⟨by rfl, ?_⟩) (by assumption) ?_
          rotate_left 1
          · intro w hSw; (try dsimp only at hSw); go_simp; try (with_reducible rfl)
          try simp only [Act.put, List.setIfInBounds_toArray, List.set_cons_zero, List.set_cons_succ]
          refine wpAnyH_take (i := 9) (oi := { dst := some 84, op := Op.move (Operand.tmp 83), type := 4, pos := "ref.go:74", after := #[{ on := 8, ground := Ground.data }, { on := 4, ground := Ground.chain }], guard := none }) (v := ?_) rfl (by kernel_rfl) (by kernel_rfl) (by kernel_rfl) (fun _ _ _ h => h) (Or.inl ⟨by rfl, ?_⟩) (by assumption) ?_
          rotate_left 1
          · intro w hSw; (try dsimp only at hSw); go_simp; try (with_reducible rfl)
          try simp only [Act.put, List.setIfInBounds_toArray, List.set_cons_zero, List.set_cons_succ]
          refine wpAnyH_take (i := 10) (oi := { dst := some 85, op := Op.fieldAddr 24 (Operand.tmp 1) 4, type := 0, pos := "ref.go:74", after := #[{ on := 9, ground := Ground.guard }], guard := some (9, false) }) (v := undef) rfl (by kernel_rfl) (by kernel_rfl) (by kernel_rfl) (fun _ _ _ h => h) (Or.inr ⟨by rfl, rfl⟩) (by assumption) ?_
          try simp only [Act.put, List.setIfInBounds_toArray, List.set_cons_zero, List.set_cons_succ]
          refine wpAnyH_take (i := 11) (oi := { dst := some 86, op := Op.load 21 (Operand.tmp 85), type := 21, pos := "ref.go:74", after := #[{ on := 10, ground := Ground.data }, { on := 9, ground := Ground.guard }], guard := some (9, false) }) (v := undef) rfl (by kernel_rfl) (by kernel_rfl) (by kernel_rfl) (fun _ _ _ h => h) (Or.inr ⟨by rfl, rfl⟩) (by assumption) ?_
          try simp only [Act.put, List.setIfInBounds_toArray, List.set_cons_zero, List.set_cons_succ]
          refine wpAnyH_take (i := 12) (oi := { dst := some 87, op := Op.binOp BinOp.eql 21 (Operand.tmp 86) (Operand.const (Value.int IntKind.i32 80)) 21, type := 4, pos := "ref.go:74", after := #[{ on := 11, ground := Ground.data }, { on := 9, ground := Ground.guard }], guard := some (9, false) }) (v := undef) rfl (by kernel_rfl) (by kernel_rfl) (by kernel_rfl) (fun _ _ _ h => h) (Or.inr ⟨by rfl, rfl⟩) (by assumption) ?_
          try simp only [Act.put, List.setIfInBounds_toArray, List.set_cons_zero, List.set_cons_succ]
          refine wpAnyH_take (i := 13) (oi := { dst := some 88, op := Op.pick (Operand.tmp 84) (Operand.const (Value.bool true)) (Operand.tmp 87), type := 4, pos := "ref.go:74", after := #[{ on := 9, ground := Ground.data }, { on := 12, ground := Ground.data }], guard := none }) (v := ?_) rfl (by kernel_rfl) (by kernel_rfl) (by kernel_rfl) (fun _ _ _ h => h) (Or.inl ⟨by rfl, ?_⟩) (by assumption) ?_
          rotate_left 1
          · intro w hSw; (try dsimp only at hSw); go_simp; try (with_reducible rfl)
          try simp only [Act.put, List.setIfInBounds_toArray, List.set_cons_zero, List.set_cons_succ]
          refine wpAnyH_take (i := 14) (oi := { dst := some 89, op := Op.move (Operand.tmp 88), type := 4, pos := "ref.go:74", after := #[{ on := 13, ground := Ground.data }, { on := 9, ground := Ground.chain }], guard := none }) (v := ?_) rfl (by kernel_rfl) (by kernel_rfl) (by kernel_rfl) (fun _ _ _ h => h) (Or.inl ⟨by rfl, ?_⟩) (by assumption) ?_
          rotate_left 1
          · intro w hSw; (try dsimp only at hSw); go_simp; try (with_reducible rfl)
          try simp only [Act.put, List.setIfInBounds_toArray, List.set_cons_zero, List.set_cons_succ]
          refine wpAnyH_take (i := 15) (oi := { dst := some 90, op := Op.fieldAddr 24 (Operand.tmp 1) 4, type := 0, pos := "ref.go:74", after := #[{ on := 14, ground := Ground.guard }, { on := 19, ground := Ground.gcOnly Departure.lateStores }], guard := some (14, false) }) (v := undef) rfl (by kernel_rfl) (by kernel_rfl) (by kernel_rfl) (fun _ _ _ h => h) (Or.inr ⟨by rfl, rfl⟩) (by assumption) ?_
          try simp only [Act.put, List.setIfInBounds_toArray, List.set_cons_zero, List.set_cons_succ]
          refine wpAnyH_take (i := 16) (oi := { dst := some 91, op := Op.load 21 (Operand.tmp 90), type := 21, pos := "ref.go:74", after := #[{ on := 15, ground := Ground.data }, { on := 14, ground := Ground.guard }, { on := 19, ground := Ground.gcOnly Departure.lateStores }], guard := some (14, false) }) (v := undef) rfl (by kernel_rfl) (by kernel_rfl) (by kernel_rfl) (fun _ _ _ h => h) (Or.inr ⟨by rfl, rfl⟩) (by assumption) ?_
          try simp only [Act.put, List.setIfInBounds_toArray, List.set_cons_zero, List.set_cons_succ]
          refine wpAnyH_take (i := 17) (oi := { dst := some 92, op := Op.binOp BinOp.eql 21 (Operand.tmp 91) (Operand.const (Value.int IntKind.i32 160)) 21, type := 4, pos := "ref.go:74", after := #[{ on := 16, ground := Ground.data }, { on := 14, ground := Ground.guard }, { on := 19, ground := Ground.gcOnly Departure.lateStores }], guard := some (14, false) }) (v := undef) rfl (by kernel_rfl) (by kernel_rfl) (by kernel_rfl) (fun _ _ _ h => h) (Or.inr ⟨by rfl, rfl⟩) (by assumption) ?_
          try simp only [Act.put, List.setIfInBounds_toArray, List.set_cons_zero, List.set_cons_succ]
          refine wpAnyH_take (i := 18) (oi := { dst := some 93, op := Op.pick (Operand.tmp 89) (Operand.const (Value.bool true)) (Operand.tmp 92), type := 4, pos := "ref.go:74", after := #[{ on := 14, ground := Ground.data }, { on := 17, ground := Ground.data }, { on := 19, ground := Ground.gcOnly Departure.lateStores }], guard := none }) (v := ?_) rfl (by kernel_rfl) (by kernel_rfl) (by kernel_rfl) (fun _ _ _ h => h) (Or.inl ⟨by rfl, ?_⟩) (by assumption) ?_
          rotate_left 1
          · intro w hSw; (try dsimp only at hSw); go_simp; try (with_reducible rfl)
          try simp only [Act.put, List.setIfInBounds_toArray, List.set_cons_zero, List.set_cons_succ]
          obtain ⟨f0, f1, f2, f3, f4, f5⟩ := Q.out.1.2.2.free
          obtain ⟨z0, z1, z2, z3, z4, z5⟩ := Q.out.1.2.2.cells
          refine wpAnyH_ready (rs := [19]) (by kernel_rfl) (by simp) ?_
          refine AllReadyH.cons (o := { dst := none, op := Op.store 26 (Operand.tmp 2) (Operand.tmp 75), type := 0, pos := "ref.go:74", after := #[{ on := 0, ground := Ground.data }, { on := 14, ground := Ground.chain }, { on := 0, ground := Ground.phase }, { on := 1, ground := Ground.textOnly Departure.lateStores }, { on := 2, ground := Ground.textOnly Departure.lateStores }, { on := 3, ground := Ground.textOnly Departure.lateStores }, { on := 4, ground := Ground.textOnly Departure.lateStores }, { on := 5, ground := Ground.textOnly Departure.lateStores }, { on := 6, ground := Ground.textOnly Departure.lateStores }, { on := 7, ground := Ground.textOnly Departure.lateStores }, { on := 8, ground := Ground.textOnly Departure.lateStores }, { on := 9, ground := Ground.textOnly Departure.lateStores }, { on := 10, ground := Ground.textOnly Departure.lateStores }, { on := 11, ground := Ground.textOnly Departure.lateStores }, { on := 12, ground := Ground.textOnly Departure.lateStores }, { on := 13, ground := Ground.textOnly Departure.lateStores }, { on := 14, ground := Ground.textOnly Departure.lateStores }, { on := 15, ground := Ground.textOnly Departure.lateStores }, { on := 16, ground := Ground.textOnly Departure.lateStores }, { on := 17, ground := Ground.textOnly Departure.lateStores }, { on := 18, ground := Ground.textOnly Departure.lateStores }], guard := none }) rfl (fun K hK => ?_) AllReadyH.nil
          go_simp
          replace PD := Lib.hid (And.intro ((Q.out.1.set (⟨8, oo, false, true, false, 4⟩ : Wh)).after (Below.drew (Below.refl _ _))) ((Q.out.2.whs (k := w.heap.size + 1) (⟨8, oo, false, true, false, 4⟩ : Wh) (by omega)).after (Below.drew (Below.refl _ _))))
          clear f0 f1 f2 f3 f4 f5 z0 z1 z2 z3 z4 z5
          refine hK.out _ _ (H.out _ _ PD.out) (fun hHeld => ?_)
          clear hK K
          try simp only [Act.put, List.setIfInBounds_toArray, List.set_cons_zero, List.set_cons_succ]
          refine wpAnyH_take (i := 20) (oi := { dst := some 3, op := Op.assign (Operand.tmp 93), type := 4, pos := "ref.go:74", after := #[{ on := 18, ground := Ground.data }, { on := 19, ground := Ground.chain }, { on := 0, ground := Ground.phase }, { on := 1, ground := Ground.phase }, { on := 2, ground := Ground.phase }, { on := 3, ground := Ground.phase }, { on := 4, ground := Ground.phase }, { on := 5, ground := Ground.phase }, { on := 6, ground := Ground.phase }, { on := 7, ground := Ground.phase }, { on := 8, ground := Ground.phase }, { on := 9, ground := Ground.phase }, { on := 10, ground := Ground.phase }, { on := 11, ground := Ground.phase }, { on := 12, ground := Ground.phase }, { on := 13, ground := Ground.phase }, { on := 14, ground := Ground.phase }, { on := 15, ground := Ground.phase }, { on := 16, ground := Ground.phase }, { on := 17, ground := Ground.phase }, { on := 18, ground := Ground.phase }, { on := 19, ground := Ground.phase }], guard := none }) (v := ?_) rfl (by kernel_rfl) (by kernel_rfl) (by kernel_rfl) (fun _ _ _ h => h) (Or.inl ⟨by rfl, ?_⟩) (by assumption) ?_
          rotate_left 1
          · intro w hSw; (try dsimp only at hSw); go_simp; try (with_reducible rfl)
          try simp only [Act.put, List.setIfInBounds_toArray, List.set_cons_zero, List.set_cons_succ]
          refine wpAnyH_done (by kernel_rfl) ?_ _
          have BB := Lib.hid PD.out.1.1
          obtain ⟨z0, z1, z2, z3, z4, z5⟩ := PD.out.1.2.2.cells
          clear H PD
          go_wp2_with fail
          exact bodyPost_ret (v := .tuple #[whV (⟨8, oo, false, true, false, 4⟩ : Wh), .bool true]) (by simp [results, Try.results62, go_sem, z0, z1, z2, z3, z4, z5]) rfl ⟨by first | rfl | rw [E.out], BB.out⟩
      · skip
        have E : Hid ((x.imm == 0 || x.imm == 64 || x.imm == 80 || x.imm == 160) = true) := Lib.hid (by simp [t0])
        go_upto_region 16 with fail
        refine wp_region_held_drew (S := (fun w' => (w'.cell? ⟨w.heap.size, 0, none⟩ = some (.int .u8 x.op) ∧ w'.cell? ⟨w.heap.size, 1, none⟩ = some (.int .u8 x.dst) ∧ w'.cell? ⟨w.heap.size, 2, none⟩ = some (.int .u8 x.src) ∧ w'.cell? ⟨w.heap.size, 3, none⟩ = some (.int .i16 x.off) ∧ w'.cell? ⟨w.heap.size, 4, none⟩ = some (.int .i32 x.imm)) ∧ (w'.cell? ⟨gb, 0, none⟩ = some (.int .u8 (⟨8, oo, false, true, false, 4⟩ : Wh).kind) ∧ w'.cell? ⟨gb, 1, none⟩ = some (.int .u8 (⟨8, oo, false, true, false, 4⟩ : Wh).op) ∧ w'.cell? ⟨gb, 2, none⟩ = some (.bool (⟨8, oo, false, true, false, 4⟩ : Wh).wide) ∧ w'.cell? ⟨gb, 3, none⟩ = some (.bool (⟨8, oo, false, true, false, 4⟩ : Wh).reg) ∧ w'.cell? ⟨gb, 4, none⟩ = some (.bool (⟨8, oo, false, true, false, 4⟩ : Wh).signed) ∧ w'.cell? ⟨gb, 5, none⟩ = some (.int .i64 (⟨8, oo, false, true, false, 4⟩ : Wh).size)))) (by kernel_rfl) (H.out _ _ PD.out) (fun hHeld => ?_)
        refine wpAnyH_take (i := 0) (oi := { dst := some 75, op := Op.load 26 (Operand.tmp 8), type := 26, pos := "ref.go:74", after := #[], guard := none }) (v := ?_) rfl (by kernel_rfl) (by kernel_rfl) (by kernel_rfl) (fun _ _ _ h => h) (Or.inl ⟨by rfl, ?_⟩) (by assumption) ?_
        rotate_left 1
        · intro w hSw; (try dsimp only at hSw); go_simp; try (with_reducible rfl)
        try simp only [Act.put, List.setIfInBounds_toArray, List.set_cons_zero, List.set_cons_succ]
        refine wpAnyH_take (i := 1) (oi := { dst := some 76, op := Op.fieldAddr 24 (Operand.tmp 1) 4, type := 0, pos := "ref.go:74", after := #[], guard := none }) (v := ?_) rfl (by kernel_rfl) (by kernel_rfl) (by kernel_rfl) (fun _ _ _ h => h) (Or.inl ⟨by rfl, ?_⟩) (by assumption) ?_
        rotate_left 1
        · intro w hSw; (try dsimp only at hSw); go_simp; try (with_reducible rfl)
        try simp only [Act.put, List.setIfInBounds_toArray, List.set_cons_zero, List.set_cons_succ]
        refine wpAnyH_take (i := 2) (oi := { dst := some 77, op := Op.load 21 (Operand.tmp 76), type := 21, pos := "ref.go:74", after := #[{ on := 1, ground := Ground.data }], guard := none }) (v := ?_) rfl (by kernel_rfl) (by kernel_rfl) (by kernel_rfl) (fun _ _ _ h => h) (Or.inl ⟨by rfl, ?_⟩) (by assumption) ?_
        rotate_left 1
        · intro w hSw; (try dsimp only at hSw); go_simp; try (with_reducible rfl)
        try simp only [Act.put, List.setIfInBounds_toArray, List.set_cons_zero, List.set_cons_succ]
        refine wpAnyH_take (i := 3) (oi := { dst := some 78, op := Op.binOp BinOp.eql 21 (Operand.tmp 77) (Operand.const (Value.int IntKind.i32 0)) 21, type := 4, pos := "ref.go:74", after := #[{ on := 2, ground := Ground.data }], guard := none }) (v := ?_) rfl (by kernel_rfl) (by kernel_rfl) (by kernel_rfl) (fun _ _ _ h => h) (Or.inl ⟨by rfl, ?_⟩) (by assumption) ?_
        rotate_left 1
        · intro w hSw; (try dsimp only at hSw); go_simp; try (with_reducible rfl)
        try simp only [Act.put, List.setIfInBounds_toArray, List.set_cons_zero, List.set_cons_succ]
        refine wpAnyH_take (i := 4) (oi := { dst := some 79, op := Op.move (Operand.tmp 78), type := 4, pos := "ref.go:74", after := #[{ on := 3, ground := Ground.data }], guard := none }) (v := ?_) rfl (by kernel_rfl) (by kernel_rfl) (by kernel_rfl) (fun _ _ _ h => h) (Or.inl ⟨by rfl, ?_⟩) (by assumption) ?_
        rotate_left 1
        · intro w hSw; (try dsimp only at hSw); go_simp; try (with_reducible rfl)
        try simp only [Act.put, List.setIfInBounds_toArray, List.set_cons_zero, List.set_cons_succ]
        refine wpAnyH_take (i := 5) (oi := { dst := some 80, op := Op.fieldAddr 24 (Operand.tmp 1) 4, type := 0, pos := "ref.go:74", after := #[{ on := 4, ground := Ground.guard }], guard := some (4, false) }) (v := undef) rfl (by kernel_rfl) (by kernel_rfl) (by kernel_rfl) (fun _ _ _ h => h) (Or.inr ⟨by rfl, rfl⟩) (by assumption) ?_
        try simp only [Act.put, List.setIfInBounds_toArray, List.set_cons_zero, List.set_cons_succ]
        refine wpAnyH_take (i := 6) (oi := { dst := some 81, op := Op.load 21 (Operand.tmp 80), type := 21, pos := "ref.go:74", after := #[{ on := 5, ground := Ground.data }, { on := 4, ground := Ground.guard }], guard := some (4, false) }) (v := undef) rfl (by kernel_rfl) (by kernel_rfl) (by kernel_rfl) (fun _ _ _ h => h) (Or.inr ⟨by rfl, rfl⟩) (by assumption) ?_
        try simp only [Act.put, List.setIfInBounds_toArray, List.set_cons_zero, List.set_cons_succ]
        refine wpAnyH_take (i := 7) (oi := { dst := some 82, op := Op.binOp BinOp.eql 21 (Operand.tmp 81) (Operand.const (Value.int IntKind.i32 64)) 21, type := 4, pos := "ref.go:74", after := #[{ on := 6, ground := Ground.data }, { on := 4, ground := Ground.guard }], guard := some (4, false) }) (v := undef) rfl (by kernel_rfl) (by kernel_rfl) (by kernel_rfl) (fun _ _ _ h => h) (Or.inr ⟨by rfl, rfl⟩) (by assumption) ?_
        try simp only [Act.put, List.setIfInBounds_toArray, List.set_cons_zero, List.set_cons_succ]
        refine wpAnyH_take (i := 8) (oi := { dst := some 83, op := Op.pick (Operand.tmp 79) (Operand.const (Value.bool true)) (Operand.tmp 82), type := 4, pos := "ref.go:74", after := #[{ on := 4, ground := Ground.data }, { on := 7, ground := Ground.data }], guard := none }) (v := ?_) rfl (by kernel_rfl) (by kernel_rfl) (by kernel_rfl) (fun _ _ _ h => h) (Or.inl ⟨by rfl, ?_⟩) (by assumption) ?_
        rotate_left 1
        · intro w hSw; (try dsimp only at hSw); go_simp; try (with_reducible rfl)
        try simp only [Act.put, List.setIfInBounds_toArray, List.set_cons_zero, List.set_cons_succ]
        refine wpAnyH_take (i := 9) (oi := { dst := some 84, op := Op.move (Operand.tmp 83), type := 4, pos := "ref.go:74", after := #[{ on := 8, ground := Ground.data }, { on := 4, ground := Ground.chain }], guard := none }) (v := ?_) rfl (by kernel_rfl) (by kernel_rfl) (by kernel_rfl) (fun _ _ _ h => h) (Or.inl ⟨by rfl, ?_⟩) (by assumption) ?_
        rotate_left 1
        · intro w hSw; (try dsimp only at hSw); go_simp; try (with_reducible rfl)
        try simp only [Act.put, List.setIfInBounds_toArray, List.set_cons_zero, List.set_cons_succ]
        refine wpAnyH_take (i := 10) (oi := { dst := some 85, op := Op.fieldAddr 24 (Operand.tmp 1) 4, type := 0, pos := "ref.go:74", after := #[{ on := 9, ground := Ground.guard }], guard := some (9, false) }) (v := undef) rfl (by kernel_rfl) (by kernel_rfl) (by kernel_rfl) (fun _ _ _ h => h) (Or.inr ⟨by rfl, rfl⟩) (by assumption) ?_
        try simp only [Act.put, List.setIfInBounds_toArray, List.set_cons_zero, List.set_cons_succ]
        refine wpAnyH_take (i := 11) (oi := { dst := some 86, op := Op.load 21 (Operand.tmp 85), type := 21, pos := "ref.go:74", after := #[{ on := 10, ground := Ground.data }, { on := 9, ground := Ground.guard }], guard := some (9, false) }) (v := undef) rfl (by kernel_rfl) (by kernel_rfl) (by kernel_rfl) (fun _ _ _ h => h) (Or.inr ⟨by rfl, rfl⟩) (by assumption) ?_
        try simp only [Act.put, List.setIfInBounds_toArray, List.set_cons_zero, List.set_cons_succ]
        refine wpAnyH_take (i := 12) (oi := { dst := some 87, op := Op.binOp BinOp.eql 21 (Operand.tmp 86) (Operand.const (Value.int IntKind.i32 80)) 21, type := 4, pos := "ref.go:74", after := #[{ on := 11, ground := Ground.data }, { on := 9, ground := Ground.guard }], guard := some (9, false) }) (v := undef) rfl (by kernel_rfl) (by kernel_rfl) (by kernel_rfl) (fun _ _ _ h => h) (Or.inr ⟨by rfl, rfl⟩) (by assumption) ?_
        try simp only [Act.put, List.setIfInBounds_toArray, List.set_cons_zero, List.set_cons_succ]
        refine wpAnyH_take (i := 13) (oi := { dst := some 88, op := Op.pick (Operand.tmp 84) (Operand.const (Value.bool true)) (Operand.tmp 87), type := 4, pos := "ref.go:74", after := #[{ on := 9, ground := Ground.data }, { on := 12, ground := Ground.data }], guard := none }) (v := ?_) rfl (by kernel_rfl) (by kernel_rfl) (by kernel_rfl) (fun _ _ _ h => h) (Or.inl ⟨by rfl, ?_⟩) (by assumption) ?_
        rotate_left 1
        · intro w hSw; (try dsimp only at hSw); go_simp; try (with_reducible rfl)
        try simp only [Act.put, List.setIfInBounds_toArray, List.set_cons_zero, List.set_cons_succ]
        refine wpAnyH_take (i := 14) (oi := { dst := some 89, op := Op.move (Operand.tmp 88), type := 4, pos := "ref.go:74", after := #[{ on := 13, ground := Ground.data }, { on := 9, ground := Ground.chain }], guard := none }) (v := ?_) rfl (by kernel_rfl) (by kernel_rfl) (by kernel_rfl) (fun _ _ _ h => h) (Or.inl ⟨by rfl, ?_⟩) (by assumption) ?_
        rotate_left 1
        · intro w hSw; (try dsimp only at hSw); go_simp; try (with_reducible rfl)
        try simp only [Act.put, List.setIfInBounds_toArray, List.set_cons_zero, List.set_cons_succ]
        refine wpAnyH_take (i := 15) (oi := { dst := some 90, op := Op.fieldAddr 24 (Operand.tmp 1) 4, type := 0, pos := "ref.go:74", after := #[{ on := 14, ground := Ground.guard }, { on := 19, ground := Ground.gcOnly Departure.lateStores }], guard := some (14, false) }) (v := undef) rfl (by kernel_rfl) (by kernel_rfl) (by kernel_rfl) (fun _ _ _ h => h) (Or.inr ⟨by rfl, rfl⟩) (by assumption) ?_
        try simp only [Act.put, List.setIfInBounds_toArray, List.set_cons_zero, List.set_cons_succ]
        refine wpAnyH_take (i := 16) (oi := { dst := some 91, op := Op.load 21 (Operand.tmp 90), type := 21, pos := "ref.go:74", after := #[{ on := 15, ground := Ground.data }, { on := 14, ground := Ground.guard }, { on := 19, ground := Ground.gcOnly Departure.lateStores }], guard := some (14, false) }) (v := undef) rfl (by kernel_rfl) (by kernel_rfl) (by kernel_rfl) (fun _ _ _ h => h) (Or.inr ⟨by rfl, rfl⟩) (by assumption) ?_
        try simp only [Act.put, List.setIfInBounds_toArray, List.set_cons_zero, List.set_cons_succ]
        refine wpAnyH_take (i := 17) (oi := { dst := some 92, op := Op.binOp BinOp.eql 21 (Operand.tmp 91) (Operand.const (Value.int IntKind.i32 160)) 21, type := 4, pos := "ref.go:74", after := #[{ on := 16, ground := Ground.data }, { on := 14, ground := Ground.guard }, { on := 19, ground := Ground.gcOnly Departure.lateStores }], guard := some (14, false) }) (v := undef) rfl (by kernel_rfl) (by kernel_rfl) (by kernel_rfl) (fun _ _ _ h => h) (Or.inr ⟨by rfl, rfl⟩) (by assumption) ?_
        try simp only [Act.put, List.setIfInBounds_toArray, List.set_cons_zero, List.set_cons_succ]
        refine wpAnyH_take (i := 18) (oi := { dst := some 93, op := Op.pick (Operand.tmp 89) (Operand.const (Value.bool true)) (Operand.tmp 92), type := 4, pos := "ref.go:74", after := #[{ on := 14, ground := Ground.data }, { on := 17, ground := Ground.data }, { on := 19, ground := Ground.gcOnly Departure.lateStores }], guard := none }) (v := ?_) rfl (by kernel_rfl) (by kernel_rfl) (by kernel_rfl) (fun _ _ _ h => h) (Or.inl ⟨by rfl, ?_⟩) (by assumption) ?_
        rotate_left 1
        · intro w hSw; (try dsimp only at hSw); go_simp; try (with_reducible rfl)
        try simp only [Act.put, List.setIfInBounds_toArray, List.set_cons_zero, List.set_cons_succ]
        obtain ⟨f0, f1, f2, f3, f4, f5⟩ := Q.out.1.2.2.free
        obtain ⟨z0, z1, z2, z3, z4, z5⟩ := Q.out.1.2.2.cells
        refine wpAnyH_ready (rs := [19]) (by kernel_rfl) (by simp) ?_
        refine AllReadyH.cons (o := { dst := none, op := Op.store 26 (Operand.tmp 2) (Operand.tmp 75), type := 0, pos := "ref.go:74", after := #[{ on := 0, ground := Ground.data }, { on := 14, ground := Ground.chain }, { on := 0, ground := Ground.phase }, { on := 1, ground := Ground.textOnly Departure.lateStores }, { on := 2, ground := Ground.textOnly Departure.lateStores }, { on := 3, ground := Ground.textOnly Departure.lateStores }, { on := 4, ground := Ground.textOnly Departure.lateStores }, { on := 5, ground := Ground.textOnly Departure.lateStores }, { on := 6, ground := Ground.textOnly Departure.lateStores }, { on := 7, ground := Ground.textOnly Departure.lateStores }, { on := 8, ground := Ground.textOnly Departure.lateStores }, { on := 9, ground := Ground.textOnly Departure.lateStores }, { on := 10, ground := Ground.textOnly Departure.lateStores }, { on := 11, ground := Ground.textOnly Departure.lateStores }, { on := 12, ground := Ground.textOnly Departure.lateStores }, { on := 13, ground := Ground.textOnly Departure.lateStores }, { on := 14, ground := Ground.textOnly Departure.lateStores }, { on := 15, ground := Ground.textOnly Departure.lateStores }, { on := 16, ground := Ground.textOnly Departure.lateStores }, { on := 17, ground := Ground.textOnly Departure.lateStores }, { on := 18, ground := Ground.textOnly Departure.lateStores }], guard := none }) rfl (fun K hK => ?_) AllReadyH.nil
        go_simp
        replace PD := Lib.hid (And.intro ((Q.out.1.set (⟨8, oo, false, true, false, 4⟩ : Wh)).after (Below.drew (Below.refl _ _))) ((Q.out.2.whs (k := w.heap.size + 1) (⟨8, oo, false, true, false, 4⟩ : Wh) (by omega)).after (Below.drew (Below.refl _ _))))
        clear f0 f1 f2 f3 f4 f5 z0 z1 z2 z3 z4 z5
        refine hK.out _ _ (H.out _ _ PD.out) (fun hHeld => ?_)
        clear hK K
        try simp only [Act.put, List.setIfInBounds_toArray, List.set_cons_zero, List.set_cons_succ]
        refine wpAnyH_take (i := 20) (oi := { dst := some 3, op := Op.assign (Operand.tmp 93), type := 4, pos := "ref.go:74", after := #[{ on := 18, ground := Ground.data }, { on := 19, ground := Ground.chain }, { on := 0, ground := Ground.phase }, { on := 1, ground := Ground.phase }, { on := 2, ground := Ground.phase }, { on := 3, ground := Ground.phase }, { on := 4, ground := Ground.phase }, { on := 5, ground := Ground.phase }, { on := 6, ground := Ground.phase }, { on := 7, ground := Ground.phase }, { on := 8, ground := Ground.phase }, { on := 9, ground := Ground.phase }, { on := 10, ground := Ground.phase }, { on := 11, ground := Ground.phase }, { on := 12, ground := Ground.phase }, { on := 13, ground := Ground.phase }, { on := 14, ground := Ground.phase }, { on := 15, ground := Ground.phase }, { on := 16, ground := Ground.phase }, { on := 17, ground := Ground.phase }, { on := 18, ground := Ground.phase }, { on := 19, ground := Ground.phase }], guard := none }) (v := ?_) rfl (by kernel_rfl) (by kernel_rfl) (by kernel_rfl) (fun _ _ _ h => h) (Or.inl ⟨by rfl, ?_⟩) (by assumption) ?_
        rotate_left 1
        · intro w hSw; (try dsimp only at hSw); go_simp; try (with_reducible rfl)
        try simp only [Act.put, List.setIfInBounds_toArray, List.set_cons_zero, List.set_cons_succ]
        refine wpAnyH_done (by kernel_rfl) ?_ _
        have BB := Lib.hid PD.out.1.1
        obtain ⟨z0, z1, z2, z3, z4, z5⟩ := PD.out.1.2.2.cells
        clear H PD
        go_wp2_with fail
        exact bodyPost_ret (v := .tuple #[whV (⟨8, oo, false, true, false, 4⟩ : Wh), .bool true]) (by simp [results, Try.results62, go_sem, z0, z1, z2, z3, z4, z5]) rfl ⟨by first | rfl | rw [E.out], BB.out⟩

set_option maxRecDepth 100000 in
set_option maxHeartbeats 8000000 in
theorem r7_mem_atom8 (x : Ins) (h1 : (x.op == 195) = false) (h2 : (x.op == 219) = true) (w : World) (b : Bool)
    (K1 : Hid (∀ w g, g = w.heap.size → Calls Try.prog 71 #[.slice (some ⟨g, 0, none⟩) 4 4, .int .u8 x.op] (w.alloc (.cells #[.int .u8 97, .int .u8 105, .int .u8 113, .int .u8 121] 5)) (Gives (.int .i64 0) w)))
    (K2 : Hid (∀ w g, g = w.heap.size → Calls Try.prog 71 #[.slice (some ⟨g, 0, none⟩) 3 3, .int .u8 x.op] (w.alloc (.cells #[.int .u8 129, .int .u8 137, .int .u8 145] 5)) (Gives (.int .i64 0) w)))
    (K3 : Hid (∀ w g, g = w.heap.size → Calls Try.prog 71 #[.slice (some ⟨g, 0, none⟩) 4 4, .int .u8 x.op] (w.alloc (.cells #[.int .u8 98, .int .u8 106, .int .u8 114, .int .u8 122] 5)) (Gives (.int .i64 0) w)))
    (K4 : Hid (∀ w g, g = w.heap.size → Calls Try.prog 71 #[.slice (some ⟨g, 0, none⟩) 4 4, .int .u8 x.op] (w.alloc (.cells #[.int .u8 99, .int .u8 107, .int .u8 115, .int .u8 123] 5)) (Gives (.int .i64 0) w))) :
    Calls Try.prog 62 #[iV x] w (Gives (.tuple #[whV (⟨8, x.imm % 256, false, true, false, 8⟩ : Wh), .bool (x.imm == 0 || x.imm == 64 || x.imm == 80 || x.imm == 160)]) w) := by
  have D := Lib.hid (IDuo.new x Wh.zero w)
  go_enter Try.func62, Try.ntmps62
  go_upto_region 1 with fail
  go_cut [4] (fun s wx => s = .int .i64 0 ∧ Hid (IDuo x Wh.zero w wx))
  case first =>
    go_wp2_with fail
    refine (K1.out _ _ (by simp)).mono ?_
    rintro e w5 ⟨rfl, b5⟩
    have Q := Lib.hid (D.out.after b5)
    clear D b5
    go_wp2_with fail
    go_meet
    exact ⟨rfl, Q⟩
  case rest =>
    obtain ⟨rfl, Q⟩ := hcut
    clear D
    obtain ⟨p0, p1, p2, p3, p4⟩ := Q.out.2.1.cells
    have k1 := Q.out.2.1.lt
    go_wp2_with fail
    refine (K2.out _ _ (by simp)).mono ?_
    rintro e w5 ⟨rfl, b5⟩
    replace Q := Lib.hid (Q.out.after b5)
    clear b5 p0 p1 p2 p3 p4 k1
    obtain ⟨p0, p1, p2, p3, p4⟩ := Q.out.2.1.cells
    have k1 := Q.out.2.1.lt
    go_wp2_with fail
    refine (K3.out _ _ (by simp)).mono ?_
    rintro e w6 ⟨rfl, b5⟩
    replace Q := Lib.hid (Q.out.after b5)
    clear b5 p0 p1 p2 p3 p4 k1
    obtain ⟨p0, p1, p2, p3, p4⟩ := Q.out.2.1.cells
    have k1 := Q.out.2.1.lt
    go_wp2_with fail
    refine (K4.out _ _ (by simp)).mono ?_
    rintro e w7 ⟨rfl, b5⟩
    replace Q := Lib.hid (Q.out.after b5)
    clear b5 p0 p1 p2 p3 p4 k1
    obtain ⟨p0, p1, p2, p3, p4⟩ := Q.out.2.1.cells
    have k1 := Q.out.2.1.lt
    have kq := Q.out.2.2.lt
    go_upto_region 15 with fail
    go_cut [71] (fun s wx => Hid (IDuo x Wh.zero w wx ∧ whB w7.heap.size (⟨8, x.imm % 256, false, true, false, 8⟩ : Wh) wx))
    case first =>
      go_wp2_with fail
      go_meet
      exact Lib.hid ⟨Q.out.after (below_alloc (Below.refl _ _) _), whB.new _ _ rfl⟩
    case rest =>
      clear Q p0 p1 p2 p3 p4
      have Q := hcut
      clear hcut
      generalize w7.heap.size = gb at *
      generalize x.imm % 256 = oo at *
      have PD := Lib.hid (And.intro (Q.out.1.after (Below.drew (Below.refl _ _))) (Q.out.2.after (Below.drew (Below.refl _ _))))
      have H : Hid (∀ v wx, IDuo x v w wx ∧ whB gb (⟨8, oo, false, true, false, 8⟩ : Wh) wx → (wx.cell? ⟨w.heap.size, 0, none⟩ = some (.int .u8 x.op) ∧ wx.cell? ⟨w.heap.size, 1, none⟩ = some (.int .u8 x.dst) ∧ wx.cell? ⟨w.heap.size, 2, none⟩ = some (.int .u8 x.src) ∧ wx.cell? ⟨w.heap.size, 3, none⟩ = some (.int .i16 x.off) ∧ wx.cell? ⟨w.heap.size, 4, none⟩ = some (.int .i32 x.imm)) ∧ (wx.cell? ⟨gb, 0, none⟩ = some (.int .u8 (⟨8, oo, false, true, false, 8⟩ : Wh).kind) ∧ wx.cell? ⟨gb, 1, none⟩ = some (.int .u8 (⟨8, oo, false, true, false, 8⟩ : Wh).op) ∧ wx.cell? ⟨gb, 2, none⟩ = some (.bool (⟨8, oo, false, true, false, 8⟩ : Wh).wide) ∧ wx.cell? ⟨gb, 3, none⟩ = some (.bool (⟨8, oo, false, true, false, 8⟩ : Wh).reg) ∧ wx.cell? ⟨gb, 4, none⟩ = some (.bool (⟨8, oo, false, true, false, 8⟩ : Wh).signed) ∧ wx.cell? ⟨gb, 5, none⟩ = some (.int .i64 (⟨8, oo, false, true, false, 8⟩ : Wh).size))) := Lib.hid fun v wx hx => ⟨hx.1.2.1.cells, hx.2.cells⟩
      cases t0 : (x.imm == 0)
      · skip
        cases t1 : (x.imm == 64)
        · skip
          cases t2 : (x.imm == 80)
          · skip
            cases t3 : (x.imm == 160)
            · skip
              have E : Hid ((x.imm == 0 || x.imm == 64 || x.imm == 80 || x.imm == 160) = false) := Lib.hid (by simp [t0, t1, t2, t3])
              go_upto_region 16 with fail
              refine wp_region_held_drew (S := (fun w' => (w'.cell? ⟨w.heap.size, 0, none⟩ = some (.int .u8 x.op) ∧ w'.cell? ⟨w.heap.size, 1, none⟩ = some (.int .u8 x.dst) ∧ w'.cell? ⟨w.heap.size, 2, none⟩ = some (.int .u8 x.src) ∧ w'.cell? ⟨w.heap.size, 3, none⟩ = some (.int .i16 x.off) ∧ w'.cell? ⟨w.heap.size, 4, none⟩ = some (.int .i32 x.imm)) ∧ (w'.cell? ⟨gb, 0, none⟩ = some (.int .u8 (⟨8, oo, false, true, false, 8⟩ : Wh).kind) ∧ w'.cell? ⟨gb, 1, none⟩ = some (.int .u8 (⟨8, oo, false, true, false, 8⟩ : Wh).op) ∧ w'.cell? ⟨gb, 2, none⟩ = some (.bool (⟨8, oo, false, true, false, 8⟩ : Wh).wide) ∧ w'.cell? ⟨gb, 3, none⟩ = some (.bool (⟨8, oo, false, true, false, 8⟩ : Wh).reg) ∧ w'.cell? ⟨gb, 4, none⟩ = some (.bool (⟨8, oo, false, true, false, 8⟩ : Wh).signed) ∧ w'.cell? ⟨gb, 5, none⟩ = some (.int .i64 (⟨8, oo, false, true, false, 8⟩ : Wh).size)))) (by kernel_rfl) (H.out _ _ PD.out) (fun hHeld => ?_)
              refine wpAnyH_take (i := 0) (oi := { dst := some 75, op := Op.load 26 (Operand.tmp 8), type := 26, pos := "ref.go:74", after := #[], guard := none }) (v := ?_) rfl (by kernel_rfl) (by kernel_rfl) (by kernel_rfl) (fun _ _ _ h => h) (Or.inl ⟨by rfl, ?_⟩) (by assumption) ?_
              rotate_left 1
              · intro w hSw; (try dsimp only at hSw); go_simp; try (with_reducible rfl)
              try simp only [Act.put, List.setIfInBounds_toArray, List.set_cons_zero, List.set_cons_succ]
              refine wpAnyH_take (i := 1) (oi := { dst := some 76, op := Op.fieldAddr 24 (Operand.tmp 1) 4, type := 0, pos := "ref.go:74", after := #[], guard := none }) (v := ?_) rfl (by kernel_rfl) (by kernel_rfl) (by kernel_rfl) (fun _ _ _ h => h) (Or.inl ⟨by rfl, ?_⟩) (by assumption) ?_
              rotate_left 1
              · intro w hSw; (try dsimp only at hSw); go_simp; try (with_reducible rfl)
              try simp only [Act.put, List.setIfInBounds_toArray, List.set_cons_zero, List.set_cons_succ]
              refine wpAnyH_take (i := 2) (oi := { dst := some 77, op := Op.load 21 (Operand.tmp 76), type := 21, pos := "ref.go:74", after := #[{ on := 1, ground := Ground.data }], guard := none }) (v := ?_) rfl (by kernel_rfl) (by kernel_rfl) (by kernel_rfl) (fun _ _ _ h => h) (Or.inl ⟨by rfl, ?_⟩) (by assumption) ?_
              rotate_left 1
              · intro w hSw; (try dsimp only at hSw); go_simp; try (with_reducible rfl)
              try simp only [Act.put, List.setIfInBounds_toArray, List.set_cons_zero, List.set_cons_succ]
              refine wpAnyH_take (i := 3) (oi := { dst := some 78, op := Op.binOp BinOp.eql 21 (Operand.tmp 77) (Operand.const (Value.int IntKind.i32 0)) 21, type := 4, pos := "ref.go:74", after := #[{ on := 2, ground := Ground.data }], guard := none }) (v := ?_) rfl (by kernel_rfl) (by kernel_rfl) (by kernel_rfl) (fun _ _ _ h => h) (Or.inl ⟨by rfl, ?_⟩) (by assumption) ?_
              rotate_left 1
              · intro w hSw; (try dsimp only at hSw); go_simp; try (with_reducible rfl)
              try simp only [Act.put, List.setIfInBounds_toArray, List.set_cons_zero, List.set_cons_succ]
              refine wpAnyH_take (i := 4) (oi := { dst := some 79, op := Op.move (Operand.tmp 78), type := 4, pos := "ref.go:74", after := #[{ on := 3, ground := Ground.data }], guard := none }) (v := ?_) rfl (by kernel_rfl) (by kernel_rfl) (by kernel_rfl) (fun _ _ _ h => h) (Or.inl ⟨by rfl, ?_⟩) (by assumption) ?_
              rotate_left 1
              · intro w hSw; (try dsimp only at hSw); go_simp; try (with_reducible rfl)
              try simp only [Act.put, List.setIfInBounds_toArray, List.set_cons_zero, List.set_cons_succ]
              refine wpAnyH_take (i := 5) (oi := { dst := some 80, op := Op.fieldAddr 24 (Operand.tmp 1) 4, type := 0, pos := "ref.go:74", after := #[{ on := 4, ground := Ground.guard }], guard := some (4, false) }) (v := ?_) rfl (by kernel_rfl) (by kernel_rfl) (by kernel_rfl) (fun _ _ _ h => h) (Or.inl ⟨by rfl, ?_⟩) (by assumption) ?_
              rotate_left 1
              · intro w hSw; (try dsimp only at hSw); go_simp; try (with_reducible rfl)
              try simp only [Act.put, List.setIfInBounds_toArray, List.set_cons_zero, List.set_cons_succ]
              refine wpAnyH_take (i := 6) (oi := { dst := some 81, op := Op.load 21 (Operand.tmp 80), type := 21, pos := "ref.go:74", after := #[{ on := 5, ground := Ground.data }, { on := 4, ground := Ground.guard }], guard := some (4, false) }) (v := ?_) rfl (by kernel_rfl) (by kernel_rfl) (by kernel_rfl) (fun _ _ _ h => h) (Or.inl ⟨by rfl, ?_⟩) (by assumption) ?_
              rotate_left 1
              · intro w hSw; (try dsimp only at hSw); go_simp; try (with_reducible rfl)
              try simp only [Act.put, List.setIfInBounds_toArray, List.set_cons_zero, List.set_cons_succ]
              refine wpAnyH_take (i := 7) (oi := { dst := some 82, op := Op.binOp BinOp.eql 21 (Operand.tmp 81) (Operand.const (Value.int IntKind.i32 64)) 21, type := 4, pos := "ref.go:74", after := #[{ on := 6, ground := Ground.data }, { on := 4, ground := Ground.guard }], guard := some (4, false) }) (v := ?_) rfl (by kernel_rfl) (by kernel_rfl) (by kernel_rfl) (fun _ _ _ h => h) (Or.inl ⟨by rfl, ?_⟩) (by assumption) ?_
              rotate_left 1
              · intro w hSw; (try dsimp only at hSw); go_simp; try (with_reducible rfl)
              try simp only [Act.put, List.setIfInBounds_toArray, List.set_cons_zero, List.set_cons_succ]
              refine wpAnyH_take (i := 8) (oi := { dst := some 83, op := Op.pick (Operand.tmp 79) (Operand.const (Value.bool true)) (Operand.tmp 82), type := 4, pos := "ref.go:74", after := #[{ on := 4, ground := Ground.data }, { on := 7, ground := Ground.data }], guard := none }) (v := ?_) rfl (by kernel_rfl) (by kernel_rfl) (by kernel_rfl) (fun _ _ _ h => h) (Or.inl ⟨by rfl, ?_⟩) (by assumption) ?_
              rotate_left 1
              · intro w hSw; (try dsimp only at hSw); go_simp; try (with_reducible rfl)
              try simp only [Act.put, List.setIfInBounds_toArray, List.set_cons_zero, List.set_cons_succ]
              refine wpAnyH_take (i := 9) (oi := { dst := some 84, op := Op.move (Operand.tmp 83), type := 4, pos := "ref.go:74", after := #[{ on := 8, ground := Ground.data }, { on := 4, ground := Ground.chain }], guard := none }) (v := ?_) rfl (by kernel_rfl) (by kernel_rfl) (by kernel_rfl) (fun _ _ _ h => h) (Or.inl ⟨by rfl, ?_⟩) (by assumption) ?_
              rotate_left 1
              · intro w hSw; (try dsimp only at hSw); go_simp; try (with_reducible rfl)
              try simp only [Act.put, List.setIfInBounds_toArray, List.set_cons_zero, List.set_cons_succ]
              refine wpAnyH_take (i := 10) (oi := { dst := some 85, op := Op.fieldAddr 24 (Operand.tmp 1) 4, type := 0, pos := "ref.go:74", after := #[{ on := 9, ground := Ground.guard }], guard := some (9, false) }) (v := ?_) rfl (by kernel_rfl) (by kernel_rfl) (by kernel_rfl) (fun _ _ _ h => h) (Or.inl ⟨by rfl, ?_⟩) (by assumption) ?_
              rotate_left 1
              · intro w hSw; (try dsimp only at hSw); go_simp; try (with_reducible rfl)
              try simp only [Act.put, List.setIfInBounds_toArray, List.set_cons_zero, List.set_cons_succ]
              refine wpAnyH_take (i := 11) (oi := { dst := some 86, op := Op.load 21 (Operand.tmp 85), type := 21, pos := "ref.go:74", after := #[{ on := 10, ground := Ground.data }, { on := 9, ground := Ground.guard }], guard := some (9, false) }) (v := ?_) rfl (by kernel_rfl) (by kernel_rfl) (by kernel_rfl) (fun _ _ _ h => h) (Or.inl ⟨by rfl, ?_⟩) (by assumption) ?_
              rotate_left 1
              · intro w hSw; (try dsimp only at hSw); go_simp; try (with_reducible rfl)
              try simp only [Act.put, List.setIfInBounds_toArray, List.set_cons_zero, List.set_cons_succ]
              refine wpAnyH_take (i := 12) (oi := { dst := some 87, op := Op.binOp BinOp.eql 21 (Operand.tmp 86) (Operand.const (Value.int IntKind.i32 80)) 21, type := 4, pos := "ref.go:74", after := #[{ on := 11, ground := Ground.data }, { on := 9, ground := Ground.guard }], guard := some (9, false) }) (v := ?_) rfl (by kernel_rfl) (by kernel_rfl) (by kernel_rfl) (fun _ _ _ h => h) (Or.inl ⟨by rfl, ?_⟩) (by assumption) ?_
              rotate_left 1
              · intro w hSw; (try dsimp only at hSw); go_simp; try (with_reducible rfl)
              try simp only [Act.put, List.setIfInBounds_toArray, List.set_cons_zero, List.set_cons_succ]
              refine wpAnyH_take (i := 13) (oi := { dst := some 88, op := Op.pick (Operand.tmp 84) (Operand.const (Value.bool true)) (Operand.tmp 87), type := 4, pos := "ref.go:74", after := #[{ on := 9, ground := Ground.data }, { on := 12, ground := Ground.data }], guard := none }) (v := ?_) rfl (by kernel_rfl) (by kernel_rfl) (by kernel_rfl) (fun _ _ _ h => h) (Or.inl ⟨by rfl, ?_⟩) (by assumption) ?_
              rotate_left 1
              · intro w hSw; (try dsimp only at hSw); go_simp; try (with_reducible rfl)
              try simp only [Act.put, List.setIfInBounds_toArray, List.set_cons_zero, List.set_cons_succ]
              refine wpAnyH_take (i := 14) (oi := { dst := some 89, op := Op.move (Operand.tmp 88), type := 4, pos := "ref.go:74", after := #[{ on := 13, ground := Ground.data }, { on := 9, ground := Ground.chain }], guard := none }) (v := ?_) rfl (by kernel_rfl) (by kernel_rfl) (by kernel_rfl) (fun _ _ _ h => h) (Or.inl ⟨by rfl, ?_⟩) (by assumption) ?_
              rotate_left 1
              · intro w hSw; (try dsimp only at hSw); go_simp; try (with_reducible rfl)
              try simp only [Act.put, List.setIfInBounds_toArray, List.set_cons_zero, List.set_cons_succ]
              refine wpAnyH_take (i := 15) (oi := { dst := some 90, op := Op.fieldAddr 24 (Operand.tmp 1) 4, type := 0, pos := "ref.go:74", after := #[{ on := 14, ground := Ground.guard }, { on := 19, ground := Ground.gcOnly Departure.lateStores }], guard := some (14, false) }) (v := ?_) rfl (by kernel_rfl) (by kernel_rfl) (by kernel_rfl) (fun _ _ _ h => h) (Or.inl ⟨by rfl, ?_⟩) (by assumption) ?_
              rotate_left 1
              · intro w hSw; (try dsimp only at hSw); go_simp; try (with_reducible rfl)
              try simp only [Act.put, List.setIfInBounds_toArray, List.set_cons_zero, List.set_cons_succ]
              refine wpAnyH_take (i := 16) (oi := { dst := some 91, op := Op.load 21 (Operand.tmp 90), type := 21, pos := "ref.go:74", after := #[{ on := 15, ground := Ground.data }, { on := 14, ground := Ground.guard }, { on := 19, ground := Ground.gcOnly Departure.lateStores }], guard := some (14, false) }) (v := ?_) rfl (by kernel_rfl) (by kernel_rfl) (by kernel_rfl) (fun _ _ _ h => h) (Or.inl ⟨by rfl, ?_⟩) (by assumption) ?_
              rotate_left 1
              · intro w hSw; (try dsimp only at hSw); go_simp; try (with_reducible rfl)
              try simp only [Act.put, List.setIfInBounds_toArray, List.set_cons_zero, List.set_cons_succ]
              refine wpAnyH_take (i := 17) (oi := { dst := some 92, op := Op.binOp BinOp.eql 21 (Operand.tmp 91) (Operand.const (Value.int IntKind.i32 160)) 21, type := 4, pos := "ref.go:74", after := #[{ on := 16, ground := Ground.data }, { on := 14, ground := Ground.guard }, { on := 19, ground := Ground.gcOnly Departure.lateStores }], guard := some (14, false) }) (v := ?_) rfl (by kernel_rfl) (by kernel_rfl) (by kernel_rfl) (fun _ _ _ h => h) (Or.inl ⟨by rfl, ?_⟩) (by assumption) ?_
              rotate_left 1
              · intro w hSw; (try dsimp only at hSw); go_simp; try (with_reducible rfl)
              try simp only [Act.put, List.setIfInBounds_toArray, List.set_cons_zero, List.set_cons_succ]
              refine wpAnyH_take (i := 18) (oi := { dst := some 93, op := Op.pick (Operand.tmp 89) (Operand.const (Value.bool true)) (Operand.tmp 92), type := 4, pos := "ref.go:74", after := #[{ on := 14, ground := Ground.data }, { on := 17, ground := Ground.data }, { on := 19, ground := Ground.gcOnly Departure.lateStores }], guard := none }) (v := ?_) rfl (by kernel_rfl) (by kernel_rfl) (by kernel_rfl) (fun _ _ _ h => h) (Or.inl ⟨by rfl, ?_⟩) (by assumption) ?_
              rotate_left 1
              · intro w hSw; (try dsimp only at hSw); go_simp; try (with_reducible rfl)
              try simp only [Act.put, List.setIfInBounds_toArray, List.set_cons_zero, List.set_cons_succ]
              obtain ⟨f0, f1, f2, f3, f4, f5⟩ := Q.out.1.2.2.free
              obtain ⟨z0, z1, z2, z3, z4, z5⟩ := Q.out.1.2.2.cells
              refine wpAnyH_ready (rs := [19]) (by kernel_rfl) (by simp) ?_
              refine AllReadyH.cons (o := { dst := none, op := Op.store 26 (Operand.tmp 2) (Operand.tmp 75), type := 0, pos := "ref.go:74", after := #[{ on := 0, ground := Ground.data }, { on := 14, ground := Ground.chain }, { on := 0, ground := Ground.phase }, { on := 1, ground := Ground.textOnly Departure.lateStores }, { on := 2, ground := Ground.textOnly Departure.lateStores }, { on := 3, ground := Ground.textOnly Departure.lateStores }, { on := 4, ground := Ground.textOnly Departure.lateStores }, { on := 5, ground := Ground.textOnly Departure.lateStores }, { on := 6, ground := Ground.textOnly Departure.lateStores }, { on := 7, ground := Ground.textOnly Departure.lateStores }, { on := 8, ground := Ground.textOnly Departure.lateStores }, { on := 9, ground := Ground.textOnly Departure.lateStores }, { on := 10, ground := Ground.textOnly Departure.lateStores }, { on := 11, ground := Ground.textOnly Departure.lateStores }, { on := 12, ground := Ground.textOnly Departure.lateStores }, { on := 13, ground := Ground.textOnly Departure.lateStores }, { on := 14, ground := Ground.textOnly Departure.lateStores }, { on := 15, ground := Ground.textOnly Departure.lateStores }, { on := 16, ground := Ground.textOnly Departure.lateStores }, { on := 17, ground := Ground.textOnly Departure.lateStores }, { on := 18, ground := Ground.textOnly Departure.lateStores }], guard := none }) rfl (fun K hK => ?_) AllReadyH.nil
              go_simp
              replace PD := Lib.hid (And.intro ((Q.out.1.set (⟨8, oo, false, true, false, 8⟩ : Wh)).after (Below.drew (Below.refl _ _))) ((Q.out.2.whs (k := w.heap.size + 1) (⟨8, oo, false, true, false, 8⟩ : Wh) (by omega)).after (Below.drew (Below.refl _ _))))
              clear f0 f1 f2 f3 f4 f5 z0 z1 z2 z3 z4 z5
              refine hK.out _ _ (H.out _ _ PD.out) (fun hHeld => ?_)
              clear hK K
              try simp only [Act.put, List.setIfInBounds_toArray, List.set_cons_zero, List.set_cons_succ]
              refine wpAnyH_take (i := 20) (oi := { dst := some 3, op := Op.assign (Operand.tmp 93), type := 4, pos := "ref.go:74", after := #[{ on := 18, ground := Ground.data }, { on := 19, ground := Ground.chain }, { on := 0, ground := Ground.phase }, { on := 1, ground := Ground.phase }, { on := 2, ground := Ground.phase }, { on := 3, ground := Ground.phase }, { on := 4, ground := Ground.phase }, { on := 5, ground := Ground.phase }, { on := 6, ground := Ground.phase }, { on := 7, ground := Ground.phase }, { on := 8, ground := Ground.phase }, { on := 9, ground := Ground.phase }, { on := 10, ground := Ground.phase }, { on := 11, ground := Ground.phase }, { on := 12, ground := Ground.phase }, { on := 13, ground := Ground.phase }, { on := 14, ground := Ground.phase }, { on := 15, ground := Ground.phase }, { on := 16, ground := Ground.phase }, { on := 17, ground := Ground.phase }, { on := 18, ground := Ground.phase }, { on := 19, ground := Ground.phase }], guard := none }) (v := ?_) rfl (by kernel_rfl) (by kernel_rfl) (by kernel_rfl) (fun _ _ _ h => h) (Or.inl ⟨by rfl, ?_⟩) (by assumption) ?_
              rotate_left 1
              · intro w hSw; (try dsimp only at hSw); go_simp; try (with_reducible rfl)
              try simp only [Act.put, List.setIfInBounds_toArray, List.set_cons_zero, List.set_cons_succ]
              refine wpAnyH_done (by kernel_rfl) ?_ _
              have BB := Lib.hid PD.out.1.1
              obtain ⟨z0, z1, z2, z3, z4, z5⟩ := PD.out.1.2.2.cells
              clear H PD
              go_wp2_with fail
              exact bodyPost_ret (v := .tuple #[whV (⟨8, oo, false, true, false, 8⟩ : Wh), .bool false]) (by simp [results, Try.results62, go_sem, z0, z1, z2, z3, z4, z5]) rfl ⟨by first | rfl | rw [E.out], BB.out⟩
            · skip
              have E : Hid ((x.imm == 0 || x.imm == 64 || x.imm == 80 || x.imm == 160) = true) := Lib.hid (by simp [t0, t1, t2, t3])
              go_upto_region 16 with fail
              refine wp_region_held_drew (S := (fun w' => (w'.cell? ⟨w.heap.size, 0, none⟩ = some (.int .u8 x.op) ∧ w'.cell? ⟨w.heap.size, 1, none⟩ = some (.int .u8 x.dst) ∧ w'.cell? ⟨w.heap.size, 2, none⟩ = some (.int .u8 x.src) ∧ w'.cell? ⟨w.heap.size, 3, none⟩ = some (.int .i16 x.off) ∧ w'.cell? ⟨w.heap.size, 4, none⟩ = some (.int .i32 x.imm)) ∧ (w'.cell? ⟨gb, 0, none⟩ = some (.int .u8 (⟨8, oo, false, true, false, 8⟩ : Wh).kind) ∧ w'.cell? ⟨gb, 1, none⟩ = some (.int .u8 (⟨8, oo, false, true, false, 8⟩ : Wh).op) ∧ w'.cell? ⟨gb, 2, none⟩ = some (.bool (⟨8, oo, false, true, false, 8⟩ : Wh).wide) ∧ w'.cell? ⟨gb, 3, none⟩ = some (.bool (⟨8, oo, false, true, false, 8⟩ : Wh).reg) ∧ w'.cell? ⟨gb, 4, none⟩ = some (.bool (⟨8, oo, false, true, false, 8⟩ : Wh).signed) ∧ w'.cell? ⟨gb, 5, none⟩ = some (.int .i64 (⟨8, oo, false, true, false, 8⟩ : Wh).size)))) (by kernel_rfl) (H.out _ _ PD.out) (fun hHeld => ?_)
              refine wpAnyH_take (i := 0) (oi := { dst := some 75, op := Op.load 26 (Operand.tmp 8), type := 26, pos := "ref.go:74", after := #[], guard := none }) (v := ?_) rfl (by kernel_rfl) (by kernel_rfl) (by kernel_rfl) (fun _ _ _ h => h) (Or.inl ⟨by rfl, ?_⟩) (by assumption) ?_
              rotate_left 1
              · intro w hSw; (try dsimp only at hSw); go_simp; try (with_reducible rfl)
              try simp only [Act.put, List.setIfInBounds_toArray, List.set_cons_zero, List.set_cons_succ]
              refine wpAnyH_take (i := 1) (oi := { dst := some 76, op := Op.fieldAddr 24 (Operand.tmp 1) 4, type := 0, pos := "ref.go:74", after := #[], guard := none }) (v := ?_) rfl (by kernel_rfl) (by kernel_rfl) (by kernel_rfl) (fun _ _ _ h => h) (Or.inl ⟨by rfl, ?_⟩) (by assumption) ?_
              rotate_left 1
              · intro w hSw; (try dsimp only at hSw); go_simp; try (with_reducible rfl)
              try simp only [Act.put, List.setIfInBounds_toArray, List.set_cons_zero, List.set_cons_succ]
              refine wpAnyH_take (i := 2) (oi := { dst := some 77, op := Op.load 21 (Operand.tmp 76), type := 21, pos := "ref.go:74", after := #[{ on := 1, ground := Ground.data }], guard := none }) (v := ?_) rfl (by kernel_rfl) (by kernel_rfl) (by kernel_rfl) (fun _ _ _ h => h) (Or.inl ⟨by rfl, ?_⟩) (by assumption) ?_
              rotate_left 1
              · intro w hSw; (try dsimp only at hSw); go_simp; try (with_reducible rfl)
              try simp only [Act.put, List.setIfInBounds_toArray, List.set_cons_zero, List.set_cons_succ]
              refine wpAnyH_take (i := 3) (oi := { dst := some 78, op := Op.binOp BinOp.eql 21 (Operand.tmp 77) (Operand.const (Value.int IntKind.i32 0)) 21, type := 4, pos := "ref.go:74", after := #[{ on := 2, ground := Ground.data }], guard := none }) (v := ?_) rfl (by kernel_rfl) (by kernel_rfl) (by kernel_rfl) (fun _ _ _ h => h) (Or.inl ⟨by rfl, ?_⟩) (by assumption) ?_
              rotate_left 1
              · intro w hSw; (try dsimp only at hSw); go_simp; try (with_reducible rfl)
              try simp only [Act.put, List.setIfInBounds_toArray, List.set_cons_zero, List.set_cons_succ]
              refine wpAnyH_take (i := 4) (oi := { dst := some 79, op := Op.move (Operand.tmp 78), type := 4, pos := "ref.go:74", after := #[{ on := 3, ground := Ground.data }], guard := none }) (v := ?_) rfl (by kernel_rfl) (by kernel_rfl) (by kernel_rfl) (fun _ _ _ h => h) (Or.inl ⟨by rfl, ?_⟩) (by assumption) ?_
              rotate_left 1
              · intro w hSw; (try dsimp only at hSw); go_simp; try (with_reducible rfl)
              try simp only [Act.put, List.setIfInBounds_toArray, List.set_cons_zero, List.set_cons_succ]
              refine wpAnyH_take (i := 5) (oi := { dst := some 80, op := Op.fieldAddr 24 (Operand.tmp 1) 4, type := 0, pos := "ref.go:74", after := #[{ on := 4, ground := Ground.guard }], guard := some (4, false) }) (v := ?_) rfl (by kernel_rfl) (by kernel_rfl) (by kernel_rfl) (fun _ _ _ h => h) (Or.inl ⟨by rfl, ?_⟩) (by assumption) ?_
              rotate_left 1
              · intro w hSw; (try dsimp only at hSw); go_simp; try (with_reducible rfl)
              try simp only [Act.put, List.setIfInBounds_toArray, List.set_cons_zero, List.set_cons_succ]
              refine wpAnyH_take (i := 6) (oi := { dst := some 81, op := Op.load 21 (Operand.tmp 80), type := 21, pos := "ref.go:74", after := #[{ on := 5, ground := Ground.data }, { on := 4, ground := Ground.guard }], guard := some (4, false) }) (v := ?_) rfl (by kernel_rfl) (by kernel_rfl) (by kernel_rfl) (fun _ _ _ h => h) (Or.inl ⟨by rfl, ?_⟩) (by assumption) ?_
              rotate_left 1
              · intro w hSw; (try dsimp only at hSw); go_simp; try (with_reducible rfl)
              try simp only [Act.put, List.setIfInBounds_toArray, List.set_cons_zero, List.set_cons_succ]
              refine wpAnyH_take (i := 7) (oi := { dst := some 82, op := Op.binOp BinOp.eql 21 (Operand.tmp 81) (Operand.const (Value.int IntKind.i32 64)) 21, type := 4, pos := "ref.go:74", after := #[{ on := 6, ground := Ground.data }, { on := 4, ground := Ground.guard }], guard := some (4, false) }) (v := ?_) rfl (by kernel_rfl) (by kernel_rfl) (by kernel_rfl) (fun _ _ _ h => h) (Or.inl ⟨by rfl, ?_⟩) (by assumption) ?_
              rotate_left 1
              · intro w hSw; (try dsimp only at hSw); go_simp; try (with_reducible rfl)
              try simp only [Act.put, List.setIfInBounds_toArray, List.set_cons_zero, List.set_cons_succ]
              refine wpAnyH_take (i := 8) (oi := { dst := some 83, op := Op.pick (Operand.tmp 79) (Operand.const (Value.bool true)) (Operand.tmp 82), type := 4, pos := "ref.go:74", after := #[{ on := 4, ground := Ground.data }, { on := 7, ground := Ground.data }], guard := none }) (v := ?_) rfl (by kernel_rfl) (by kernel_rfl) (by kernel_rfl) (fun _ _ _ h => h) (Or.inl ⟨by rfl, ?_⟩) (by assumption) ?_
              rotate_left 1
              · intro w hSw; (try dsimp only at hSw); go_simp; try (with_reducible rfl)
              try simp only [Act.put, List.setIfInBounds_toArray, List.set_cons_zero, List.set_cons_succ]
              refine wpAnyH_take (i := 9) (oi := { dst := some 84, op := Op.move (Operand.tmp 83), type := 4, pos := "ref.go:74", after := #[{ on := 8, ground := Ground.data }, { on := 4, ground := Ground.chain }], guard := none }) (v := ?_) rfl (by kernel_rfl) (by kernel_rfl) (by kernel_rfl) (fun _ _ _ h => h) (Or.inl ⟨by rfl, ?_⟩) (by assumption) ?_
              rotate_left 1
              · intro w hSw; (try dsimp only at hSw); go_simp; try (with_reducible rfl)
              try simp only [Act.put, List.setIfInBounds_toArray, List.set_cons_zero, List.set_cons_succ]
              refine wpAnyH_take (i := 10) (oi := { dst := some 85, op := Op.fieldAddr 24 (Operand.tmp 1) 4, type := 0, pos := "ref.go:74", after := #[{ on := 9, ground := Ground.guard }], guard := some (9, false) }) (v := ?_) rfl (by kernel_rfl) (by kernel_rfl) (by kernel_rfl) (fun _ _ _ h => h) (Or.inl ⟨by rfl, ?_⟩) (by assumption) ?_
              rotate_left 1
              · intro w hSw; (try dsimp only at hSw); go_simp; try (with_reducible rfl)
              try simp only [Act.put, List.setIfInBounds_toArray, List.set_cons_zero, List.set_cons_succ]
              refine wpAnyH_take (i := 11) (oi := { dst := some 86, op := Op.load 21 (Operand.tmp 85), type := 21, pos := "ref.go:74", after := #[{ on := 10, ground := Ground.data }, { on := 9, ground := Ground.guard }], guard := some (9, false) }) (v := ?_) rfl (by kernel_rfl) (by kernel_rfl) (by kernel_rfl) (fun _ _ _ h => h) (Or.inl ⟨by rfl, ?_⟩) (by assumption) ?_
              rotate_left 1
              · intro w hSw; (try dsimp only at hSw); go_simp; try (with_reducible rfl)
              try simp only [Act.put, List.setIfInBounds_toArray, List.set_cons_zero, List.set_cons_succ]
              refine wpAnyH_take (i := 12) (oi := { dst := some 87, op := Op.binOp BinOp.eql 21 (Operand.tmp 86) (Operand.const (Value.int IntKind.i32 80)) 21, type := 4, pos := "ref.go:74", after := #[{ on := 11, ground := Ground.data }, { on := 9, ground := Ground.guard }], guard := some (9, false) }) (v := ?_) rfl (by kernel_rfl) (by kernel_rfl) (by kernel_rfl) (fun _ _ _ h => h) (Or.inl ⟨by rfl, ?_⟩) (by assumption) ?_
              rotate_left 1
              · intro w hSw; (try dsimp only at hSw); go_simp; try (with_reducible rfl)
              try simp only [Act.put, List.setIfInBounds_toArray, List.set_cons_zero, List.set_cons_succ]
              refine wpAnyH_take (i := 13) (oi := { dst := some 88, op := Op.pick (Operand.tmp 84) (Operand.const (Value.bool true)) (Operand.tmp 87), type := 4, pos := "ref.go:74", after := #[{ on := 9, ground := Ground.data }, { on := 12, ground := Ground.data }], guard := none }) (v := ?_) rfl (by kernel_rfl) (by kernel_rfl) (by kernel_rfl) (fun _ _ _ h => h) (Or.inl ⟨by rfl, ?_⟩) (by assumption) ?_
              rotate_left 1
              · intro w hSw; (try dsimp only at hSw); go_simp; try (with_reducible rfl)
              try simp only [Act.put, List.setIfInBounds_toArray, List.set_cons_zero, List.set_cons_succ]
              refine wpAnyH_take (i := 14) (oi := { dst := some 89, op := Op.move (Operand.tmp 88), type := 4, pos := "ref.go:74", after := #[{ on := 13, ground := Ground.data }, { on := 9, ground := Ground.chain }], guard := none }) (v := ?_) rfl (by kernel_rfl) (by kernel_rfl) (by kernel_rfl) (fun _ _ _ h => h) (Or.inl ⟨by rfl, ?_⟩) (by assumption) ?_
              rotate_left 1
              · intro w hSw; (try dsimp only at hSw); go_simp; try (with_reducible rfl)
              try simp only [Act.put, List.setIfInBounds_toArray, List.set_cons_zero, List.set_cons_succ]
              refine wpAnyH_take (i := 15) (oi := { dst := some 90, op := Op.fieldAddr 24 (Operand.tmp 1) 4, type := 0, pos := "ref.go:74", after := #[{ on := 14, ground := Ground.guard }, { on := 19, ground := Ground.gcOnly Departure.lateStores }], guard := some (14, false) }) (v := ?_) rfl (by kernel_rfl) (by kernel_rfl) (by kernel_rfl) (fun _ _ _ h => h) (Or.inl ⟨by rfl, ?_⟩) (by assumption) ?_
              rotate_left 1
              · intro w hSw; (try dsimp only at hSw); go_simp; try (with_reducible rfl)
              try simp only [Act.put, List.setIfInBounds_toArray, List.set_cons_zero, List.set_cons_succ]
              refine wpAnyH_take (i := 16) (oi := { dst := some 91, op := Op.load 21 (Operand.tmp 90), type := 21, pos := "ref.go:74", after := #[{ on := 15, ground := Ground.data }, { on := 14, ground := Ground.guard }, { on := 19, ground := Ground.gcOnly Departure.lateStores }], guard := some (14, false) }) (v := ?_) rfl (by kernel_rfl) (by kernel_rfl) (by kernel_rfl) (fun _ _ _ h => h) (Or.inl ⟨by rfl, ?_⟩) (by assumption) ?_
              rotate_left 1
              · intro w hSw; (try dsimp only at hSw); go_simp; try (with_reducible rfl)
              try simp only [Act.put, List.setIfInBounds_toArray, List.set_cons_zero, List.set_cons_succ]
              refine wpAnyH_take (i := 17) (oi := { dst := some 92, op := Op.binOp BinOp.eql 21 (Operand.tmp 91) (Operand.const (Value.int IntKind.i32 160)) 21, type := 4, pos := "ref.go:74", after := #[{ on := 16, ground := Ground.data }, { on := 14, ground := Ground.guard }, { on := 19, ground := Ground.gcOnly Departure.lateStores }], guard := some (14, false) }) (v := ?_) rfl (by kernel_rfl) (by kernel_rfl) (by kernel_rfl) (fun _ _ _ h => h) (Or.inl ⟨by rfl, ?_⟩) (by assumption) ?_
              rotate_left 1
              · intro w hSw; (try dsimp only at hSw); go_simp; try (with_reducible rfl)
              try simp only [Act.put, List.setIfInBounds_toArray, List.set_cons_zero, List.set_cons_succ]
              refine wpAnyH_take (i := 18) (oi := { dst := some 93, op := Op.pick (Operand.tmp 89) (Operand.const (Value.bool true)) (Operand.tmp 92), type := 4, pos := "ref.go:74", after := #[{ on := 14, ground := Ground.data }, { on := 17, ground := Ground.data }, { on := 19, ground := Ground.gcOnly Departure.lateStores }], guard := none }) (v := ?_) rfl (by kernel_rfl) (by kernel_rfl) (by kernel_rfl) (fun _ _ _ h => h) (Or.inl ⟨by rfl, ?_⟩) (by assumption) ?_
              rotate_left 1
              · intro w hSw; (try dsimp only at hSw); go_simp; try (with_reducible rfl)
              try simp only [Act.put, List.setIfInBounds_toArray, List.set_cons_zero, List.set_cons_succ]
              obtain ⟨f0, f1, f2, f3, f4, f5⟩ := Q.out.1.2.2.free
              obtain ⟨z0, z1, z2, z3, z4, z5⟩ := Q.out.1.2.2.cells
              refine wpAnyH_ready (rs := [19]) (by kernel_rfl) (by simp) ?_
              refine AllReadyH.cons (o := { dst := none, op := Op.store 26 (Operand.tmp 2) (Operand.tmp 75), type := 0, pos := "ref.go:74", after := #[{ on := 0, ground := Ground.data }, { on := 14, ground := Ground.chain }, { on := 0, ground := Ground.phase }, { on := 1, ground := Ground.textOnly Departure.lateStores }, { on := 2, ground := Ground.textOnly Departure.lateStores }, { on := 3, ground := Ground.textOnly Departure.lateStores }, { on := 4, ground := Ground.textOnly Departure.lateStores }, { on := 5, ground := Ground.textOnly Departure.lateStores }, { on := 6, ground := Ground.textOnly Departure.lateStores }, { on := 7, ground := Ground.textOnly Departure.lateStores }, { on := 8, ground := Ground.textOnly Departure.lateStores }, { on := 9, ground := Ground.textOnly Departure.lateStores }, { on := 10, ground := Ground.textOnly Departure.lateStores }, { on := 11, ground := Ground.textOnly Departure.lateStores }, { on := 12, ground := Ground.textOnly Departure.lateStores }, { on := 13, ground := Ground.textOnly Departure.lateStores }, { on := 14, ground := Ground.textOnly Departure.lateStores }, { on := 15, ground := Ground.textOnly Departure.lateStores }, { on := 16, ground := Ground.textOnly Departure.lateStores }, { on := 17, ground := Ground.textOnly Departure.lateStores }, { on := 18, ground := Ground.textOnly Departure.lateStores }], guard := none }) rfl (fun K hK => ?_) AllReadyH.nil
              go_simp
              replace PD := Lib.hid (And.intro ((Q.out.1.set (⟨8, oo, false, true, false, 8⟩ : Wh)).after (Below.drew (Below.refl _ _))) ((Q.out.2.whs (k := w.heap.size + 1) (⟨8, oo, false, true, false, 8⟩ : Wh) (by omega)).after (Below.drew (Below.refl _ _))))
              clear f0 f1 f2 f3 f4 f5 z0 z1 z2 z3 z4 z5
              refine hK.out _ _ (H.out _ _ PD.out) (fun hHeld => ?_)
              clear hK K
              try simp only [Act.put, List.setIfInBounds_toArray, List.set_cons_zero, List.set_cons_succ]
              refine wpAnyH_take (i := 20) (oi := { dst := some 3, op := Op.assign (Operand.tmp 93), type := 4, pos := "ref.go:74", after := #[{ on := 18, ground := Ground.data }, { on := 19, ground := Ground.chain }, { on := 0, ground := Ground.phase }, { on := 1, ground := Ground.phase }, { on := 2, ground := Ground.phase }, { on := 3, ground := Ground.phase }, { on := 4, ground := Ground.phase }, { on := 5, ground := Ground.phase }, { on := 6, ground := Ground.phase }, { on := 7, ground := Ground.phase }, { on := 8, ground := Ground.phase }, { on := 9, ground := Ground.phase }, { on := 10, ground := Ground.phase }, { on := 11, ground := Ground.phase }, { on := 12, ground := Ground.phase }, { on := 13, ground := Ground.phase }, { on := 14, ground := Ground.phase }, { on := 15, ground := Ground.phase }, { on := 16, ground := Ground.phase }, { on := 17, ground := Ground.phase }, { on := 18, ground := Ground.phase }, { on := 19, ground := Ground.phase }], guard := none }) (v := ?_) rfl (by kernel_rfl) (by kernel_rfl) (by kernel_rfl) (fun _ _ _ h => h) (Or.inl ⟨by rfl, ?_⟩) (by assumption) ?_
              rotate_left 1
              · intro w hSw; (try dsimp only at hSw); go_simp; try (with_reducible rfl)
              try simp only [Act.put, List.setIfInBounds_toArray, List.set_cons_zero, List.set_cons_succ]
              refine wpAnyH_done (by kernel_rfl) ?_ _
              have BB := Lib.hid PD.out.1.1
              obtain ⟨z0, z1, z2, z3, z4, z5⟩ := PD.out.1.2.2.cells
              clear H PD
              go_wp2_with fail
              exact bodyPost_ret (v := .tuple #[whV (⟨8, oo, false, true, false, 8⟩ : Wh), .bool true]) (by simp [results, Try.results62, go_sem, z0, z1, z2, z3, z4, z5]) rfl ⟨by first | rfl | rw [E.out], BB.out⟩
          · skip
            have E : Hid ((x.imm == 0 || x.imm == 64 || x.imm == 80 || x.imm == 160) = true) := Lib.hid (by simp [t0, t1, t2])
            go_upto_region 16 with fail
            refine wp_region_held_drew (S := (fun w' => (w'.cell? ⟨w.heap.size, 0, none⟩ = some (.int .u8 x.op) ∧ w'.cell? ⟨w.heap.size, 1, none⟩ = some (.int .u8 x.dst) ∧ w'.cell? ⟨w.heap.size, 2, none⟩ = some (.int .u8 x.src) ∧ w'.cell? ⟨w.heap.size, 3, none⟩ = some (.int .i16 x.off) ∧ w'.cell? ⟨w.heap.size, 4, none⟩ = some (.int .i32 x.imm)) ∧ (w'.cell? ⟨gb, 0, none⟩ = some (.int .u8 (⟨8, oo, false, true, false, 8⟩ : Wh).kind) ∧ w'.cell? ⟨gb, 1, none⟩ = some (.int .u8 (⟨8, oo, false, true, false, 8⟩ : Wh).op) ∧ w'.cell? ⟨gb, 2, none⟩ = some (.bool (⟨8, oo, false, true, false, 8⟩ : Wh).wide) ∧ w'.cell? ⟨gb, 3, none⟩ = some (.bool (⟨8, oo, false, true, false, 8⟩ : Wh).reg) ∧ w'.cell? ⟨gb, 4, none⟩ = some (.bool (⟨8, oo, false, true, false, 8⟩ : Wh).signed) ∧ w'.cell? ⟨gb, 5, none⟩ = some (.int .i64 (⟨8, oo, false, true, false, 8⟩ : Wh).size)))) (by kernel_rfl) (H.out _ _ PD.out) (fun hHeld => ?_)
            refine wpAnyH_take (i := 0) (oi := { dst := some 75, op := Op.load 26 (Operand.tmp 8), type := 26, pos := "ref.go:74", after := #[], guard := none }) (v := ?_) rfl (by kernel_rfl) (by kernel_rfl) (by kernel_rfl) (fun _ _ _ h => h) (Or.inl ⟨by rfl, ?_⟩) (by assumption) ?_
            rotate_left 1
            · intro w hSw; (try dsimp only at hSw); go_simp; try (with_reducible rfl)
            try simp only [Act.put, List.setIfInBounds_toArray, List.set_cons_zero, List.set_cons_succ]
            refine wpAnyH_take (i := 1) (oi := { dst := some 76, op := Op.fieldAddr 24 (Operand.tmp 1) 4, type := 0, pos := "ref.go:74", after := #[], guard := none }) (v := ?_) rfl (by kernel_rfl) (by kernel_rfl) (by kernel_rfl) (fun _ _ _ h => h) (Or.inl ⟨by rfl, ?_⟩) (by assumption) ?_
            rotate_left 1
            · intro w hSw; (try dsimp only at hSw); go_simp; try (with_reducible rfl)
            try simp only [Act.put, List.setIfInBounds_toArray, List.set_cons_zero, List.set_cons_succ]
            refine wpAnyH_take (i := 2) (oi := { dst := some 77, op := Op.load 21 (Operand.tmp 76), type := 21, pos := "ref.go:74", after := #[{ on := 1, ground := Ground.data }], guard := none }) (v := ?_) rfl (by kernel_rfl) (by kernel_rfl) (by kernel_rfl) (fun _ _ _ h => h) (Or.inl ⟨by rfl, ?_⟩) (by assumption) ?_
            rotate_left 1
            · intro w hSw; (try dsimp only at hSw); go_simp; try (with_reducible rfl)
            try simp only [Act.put, List.setIfInBounds_toArray, List.set_cons_zero, List.set_cons_succ]
            refine wpAnyH_take (i := 3) (oi := { dst := some 78, op := Op.binOp BinOp.eql 21 (Operand.tmp 77) (Operand.const (Value.int IntKind.i32 0)) 21, type := 4, pos := "ref.go:74", after := #[{ on := 2, ground := Ground.data }], guard := none }) (v := ?_) rfl (by kernel_rfl) (by kernel_rfl) (by kernel_rfl) (fun _ _ _ h => h) (Or.inl ⟨by rfl, ?_⟩) (by assumption) ?_
            rotate_left 1
            · intro w hSw; (try dsimp only at hSw); go_simp; try (with_reducible rfl)
            try simp only [Act.put, List.setIfInBounds_toArray, List.set_cons_zero, List.set_cons_succ]
            refine wpAnyH_take (i := 4) (oi := { dst := some 79, op := Op.move (Operand.tmp 78), type := 4, pos := "ref.go:74", after := #[{ on := 3, ground := Ground.data }], guard := none }) (v := ?_) rfl (by kernel_rfl) (by kernel_rfl) (by kernel_rfl) (fun _ _ _ h => h) (Or.inl ⟨by rfl, ?_⟩) (by assumption) ?_
            rotate_left 1
            · intro w hSw; (try dsimp only at hSw); go_simp; try (with_reducible rfl)
            try simp only [Act.put, List.setIfInBounds_toArray, List.set_cons_zero, List.set_cons_succ]
            refine wpAnyH_take (i := 5) (oi := { dst := some 80, op := Op.fieldAddr 24 (Operand.tmp 1) 4, type := 0, pos := "ref.go:74", after := #[{ on := 4, ground := Ground.guard }], guard := some (4, false) }) (v := ?_) rfl (by kernel_rfl) (by kernel_rfl) (by kernel_rfl) (fun _ _ _ h => h) (Or.inl ⟨by rfl, ?_⟩) (by assumption) ?_
            rotate_left 1
            · intro w hSw; (try dsimp only at hSw); go_simp; try (with_reducible rfl)
            try simp only [Act.put, List.setIfInBounds_toArray, List.set_cons_zero, List.set_cons_succ]
            refine wpAnyH_take (i := 6) (oi := { dst := some 81, op := Op.load 21 (Operand.tmp 80), type := 21, pos := "ref.go:74", after := #[{ on := 5, ground := Ground.data }, { on := 4, ground := Ground.guard }], guard := some (4, false) }) (v := ?_) rfl (by kernel_rfl) (by kernel_rfl) (by kernel_rfl) (fun _ _ _ h => h) (Or.inl ⟨by rfl, ?_⟩) (by assumption) ?_
            rotate_left 1
            · intro w hSw; (try dsimp only at hSw); go_simp; try (with_reducible rfl)
            try simp only [Act.put, List.setIfInBounds_toArray, List.set_cons_zero, List.set_cons_succ]
            refine wpAnyH_take (i := 7) (oi := { dst := some 82, op := Op.binOp BinOp.eql 21 (Operand.tmp 81) (Operand.const (Value.int IntKind.i32 64)) 21, type := 4, pos := "ref.go:74", after := #[{ on := 6, ground := Ground.data }, { on := 4, ground := Ground.guard }], guard := some (4, false) }) (v := ?_) rfl (by kernel_rfl) (by kernel_rfl) (by kernel_rfl) (fun _ _ _ h => h) (Or.inl ⟨by rfl, ?_⟩) (by assumption) ?_
            rotate_left 1
            · intro w hSw; (try dsimp only at hSw); go_simp; try (with_reducible rfl)
            try simp only [Act.put, List.setIfInBounds_toArray, List.set_cons_zero, List.set_cons_succ]
            refine wpAnyH_take (i := 8) (oi := { dst := some 83, op := Op.pick (Operand.tmp 79) (Operand.const (Value.bool true)) (Operand.tmp 82), type := 4, pos := "ref.go:74", after := #[{ on := 4, ground := Ground.data }, { on := 7, ground := Ground.data }], guard := none }) (v := ?_) rfl (by kernel_rfl) (by kernel_rfl) (by kernel_rfl) (fun _ _ _ h => h) (Or.inl ⟨by rfl, ?_⟩) (by assumption) ?_
            rotate_left 1
            · intro w hSw; (try dsimp only at hSw); go_simp; try (with_reducible rfl)
            try simp only [Act.put, List.setIfInBounds_toArray, List.set_cons_zero, List.set_cons_succ]
            refine wpAnyH_take (i := 9) (oi := { dst := some 84, op := Op.move (Operand.tmp 83), type := 4, pos := "ref.go:74", after := #[{ on := 8, ground := Ground.data }, { on := 4, ground := Ground.chain }], guard := none }) (v := ?_) rfl (by kernel_rfl) (by kernel_rfl) (by kernel_rfl) (fun _ _ _ h => h) (Or.inl ⟨by rfl, ?_⟩) (by assumption) ?_
            rotate_left 1
            · intro w hSw; (try dsimp only at hSw); go_simp; try (with_reducible rfl)
            try simp only [Act.put, List.setIfInBounds_toArray, List.set_cons_zero, List.set_cons_succ]
            refine wpAnyH_take (i := 10) (oi := { dst := some 85, op := Op.fieldAddr 24 (Operand.tmp 1) 4, type := 0, pos := "ref.go:74", after := #[{ on := 9, ground := Ground.guard }], guard := some (9, false) }) (v := ?_) rfl (by kernel_rfl) (by kernel_rfl) (by kernel_rfl) (fun _ _ _ h => h) (Or.inl ⟨by rfl, ?_⟩) (by assumption) ?_
            rotate_left 1
            · intro w hSw; (try dsimp only at hSw); go_simp; try (with_reducible rfl)
            try simp only [Act.put, List.setIfInBounds_toArray, List.set_cons_zero, List.set_cons_succ]
            refine wpAnyH_take (i := 11) (oi := { dst := some 86, op := Op.load 21 (Operand.tmp 85), type := 21, pos := "ref.go:74", after := #[{ on := 10, ground := Ground.data }, { on := 9, ground := Ground.guard }], guard := some (9, false) }) (v := ?_) rfl (by kernel_rfl) (by kernel_rfl) (by kernel_rfl) (fun _ _ _ h => h) (Or.inl ⟨by rfl, ?_⟩) (by assumption) ?_
            rotate_left 1
            · intro w hSw; (try dsimp only at hSw); go_simp; try (with_reducible rfl)
            try simp only [Act.put, List.setIfInBounds_toArray, List.set_cons_zero, List.set_cons_succ]
            refine wpAnyH_take (i := 12) (oi := { dst := some 87, op := Op.binOp BinOp.eql 21 (Operand.tmp 86) (Operand.const (Value.int IntKind.i32 80)) 21, type := 4, pos := "ref.go:74", after := #[{ on := 11, ground := Ground.data }, { on := 9, ground := Ground.guard }], guard := some (9, false) }) (v := ?_) rfl (by kernel_rfl) (by kernel_rfl) (by kernel_rfl) (fun _ _ _ h => h) (Or.inl ⟨by rfl, ?_⟩) (by assumption) ?_
            rotate_left 1
            · intro w hSw; (try dsimp only at hSw); go_simp; try (with_reducible rfl)
            try simp only [Act.put, List.setIfInBounds_toArray, List.set_cons_zero, List.set_cons_succ]
            refine wpAnyH_take (i := 13) (oi := { dst := some 88, op := Op.pick (Operand.tmp 84) (Operand.const (Value.bool true)) (Operand.tmp 87), type := 4, pos := "ref.go:74", after := #[{ on := 9, ground := Ground.data }, { on := 12, ground := Ground.data }], guard := none }) (v := ?_) rfl (by kernel_rfl) (by kernel_rfl) (by kernel_rfl) (fun _ _ _ h => h) (Or.inl ⟨by rfl, ?_⟩) (by assumption) ?_
            rotate_left 1
            · intro w hSw; (try dsimp only at hSw); go_simp; try (with_reducible rfl)
            try simp only [Act.put, List.setIfInBounds_toArray, List.set_cons_zero, List.set_cons_succ]
            refine wpAnyH_take (i := 14) (oi := { dst := some 89, op := Op.move (Operand.tmp 88), type := 4, pos := "ref.go:74", after := #[{ on := 13, ground := Ground.data }, { on := 9, ground := Ground.chain }], guard := none }) (v := ?_) rfl (by kernel_rfl) (by kernel_rfl) (by kernel_rfl) (fun _ _ _ h => h) (Or.inl ⟨by rfl, ?_⟩) (by assumption) ?_
            rotate_left 1
            · intro w hSw; (try dsimp only at hSw); go_simp; try (with_reducible rfl)
            try simp only [Act.put, List.setIfInBounds_toArray, List.set_cons_zero, List.set_cons_succ]
            refine wpAnyH_take (i := 15) (oi := { dst := some 90, op := Op.fieldAddr 24 (Operand.tmp 1) 4, type := 0, pos := "ref.go:74", after := #[{ on := 14, ground := Ground.guard }, { on := 19, ground := Ground.gcOnly Departure.lateStores }], guard := some (14, false) }) (v := undef) rfl (by kernel_rfl) (by kernel_rfl) (by kernel_rfl) (fun _ _ _ h => h) (Or.inr ⟨by rfl, rfl⟩) (by assumption) ?_
            try simp only [Act.put, List.setIfInBounds_toArray, List.set_cons_zero, List.set_cons_succ]
            refine wpAnyH_take (i := 16) (oi := { dst := some 91, op := Op.load 21 (Operand.tmp 90), type := 21, pos := "ref.go:74", after := #[{ on := 15, ground := Ground.data }, { on := 14, ground := Ground.guard }, { on := 19, ground := Ground.gcOnly Departure.lateStores }], guard := some (14, false) }) (v := undef) rfl (by kernel_rfl) (by kernel_rfl) (by kernel_rfl) (fun _ _ _ h => h) (Or.inr ⟨by rfl, rfl⟩) (by assumption) ?_
            try simp only [Act.put, List.setIfInBounds_toArray, List.set_cons_zero, List.set_cons_succ]
            refine wpAnyH_take (i := 17) (oi := { dst := some 92, op := Op.binOp BinOp.eql 21 (Operand.tmp 91) (Operand.const (Value.int IntKind.i32 160)) 21, type := 4, pos := "ref.go:74", after := #[{ on := 16, ground := Ground.data }, { on := 14, ground := Ground.guard }, { on := 19, ground := Ground.gcOnly Departure.lateStores }], guard := some (14, false) }) (v := undef) rfl (by kernel_rfl) (by kernel_rfl) (by kernel_rfl) (fun _ _ _ h => h) (Or.inr ⟨by rfl, rfl⟩) (by assumption) ?_
            try simp only [Act.put, List.setIfInBounds_toArray, List.set_cons_zero, List.set_cons_succ]
            refine wpAnyH_take (i := 18) (oi := { dst := some 93, op := Op.pick (Operand.tmp 89) (Operand.const (Value.bool true)) (Operand.tmp 92), type := 4, pos := "ref.go:74", after := #[{ on := 14, ground := Ground.data }, { on := 17, ground := Ground.data }, { on := 19, ground := Ground.gcOnly Departure.lateStores }], guard := none }) (v := ?_) rfl (by kernel_rfl) (by kernel_rfl) (by kernel_rfl) (fun _ _ _ h => h) (Or.inl ⟨by rfl, ?_⟩) (by assumption) ?_
            rotate_left 1
            · intro w hSw; (try dsimp only at hSw); go_simp; try (with_reducible rfl)
            try simp only [Act.put, List.setIfInBounds_toArray, List.set_cons_zero, List.set_cons_succ]
            obtain ⟨f0, f1, f2, f3, f4, f5⟩ := Q.out.1.2.2.free
            obtain ⟨z0, z1, z2, z3, z4, z5⟩ := Q.out.1.2.2.cells
            refine wpAnyH_ready (rs := [19]) (by kernel_rfl) (by simp) ?_
            refine AllReadyH.cons (o := { dst := none, op := Op.store 26 (Operand.tmp 2) (Operand.tmp 75), type := 0, pos := "ref.go:74", after := #[{ on := 0, ground := Ground.data }, { on := 14, ground := Ground.chain }, { on := 0, ground := Ground.phase }, { on := 1, ground := Ground.textOnly Departure.lateStores }, { on := 2, ground := Ground.textOnly Departure.lateStores }, { on := 3, ground := Ground.textOnly Departure.lateStores }, { on := 4, ground := Ground.textOnly Departure.lateStores }, { on := 5, ground := Ground.textOnly Departure.lateStores }, { on := 6, ground := Ground.textOnly Departure.lateStores }, { on := 7, ground := Ground.textOnly Departure.lateStores }, { on := 8, ground := Ground.textOnly Departure.lateStores }, { on := 9, ground := Ground.textOnly Departure.lateStores }, { on := 10, ground := Ground.textOnly Departure.lateStores }, { on := 11, ground := Ground.textOnly Departure.lateStores }, { on := 12, ground := Ground.textOnly Departure.lateStores }, { on := 13, ground := Ground.textOnly Departure.lateStores }, { on := 14, ground := Ground.textOnly Departure.lateStores }, { on := 15, ground := Ground.textOnly Departure.lateStores }, { on := 16, ground := Ground.textOnly Departure.lateStores }, { on := 17, ground := Ground.textOnly Departure.lateStores }, { on := 18, ground := Ground.textOnly Departure.lateStores }], guard := none }) rfl (fun K hK => ?_) AllReadyH.nil
            go_simp
            replace PD := Lib.hid (And.intro ((Q.out.1.set (⟨8, oo, false, true, false, 8⟩ : Wh)).after (Below.drew (Below.refl _ _))) ((Q.out.2.whs (k := w.heap.size + 1) (⟨8, oo, false, true, false, 8⟩ : Wh) (by omega)).after (Below.drew (Below.refl _ _))))
            clear f0 f1 f2 f3 f4 f5 z0 z1 z2 z3 z4 z5
            refine hK.out _ _ (H.out _ _ PD.out) (fun hHeld => ?_)
            clear hK K
            try simp only [Act.put, List.setIfInBounds_toArray, List.set_cons_zero, List.set_cons_succ]
            refine wpAnyH_take (i := 20) (oi := { dst := some 3, op := Op.assign (Operand.tmp 93), type := 4, pos := "ref.go:74", after := #[{ on := 18, ground := Ground.data }, { on := 19, ground := Ground.chain }, { on := 0, ground := Ground.phase }, { on := 1, ground := Ground.phase }, { on := 2, ground := Ground.phase }, { on := 3, ground := Ground.phase }, { on := 4, ground := Ground.phase }, { on := 5, ground := Ground.phase }, { on := 6, ground := Ground.phase }, { on := 7, ground := Ground.phase }, { on := 8, ground := Ground.phase }, { on := 9, ground := Ground.phase }, { on := 10, ground := Ground.phase }, { on := 11, ground := Ground.phase }, { on := 12, ground := Ground.phase }, { on := 13, ground := Ground.phase }, { on := 14, ground := Ground.phase }, { on := 15, ground := Ground.phase }, { on := 16, ground := Ground.phase }, { on := 17, ground := Ground.phase }, { on := 18, ground := Ground.phase }, { on := 19, ground := Ground.phase }], guard := none }) (v := ?_) rfl (by kernel_rfl) (by kernel_rfl) (by kernel_rfl) (fun _ _ _ h => h) (Or.inl ⟨by rfl, ?_⟩) (by assumption) ?_
            rotate_left 1
            · intro w hSw; (try dsimp only at hSw); go_simp; try (with_reducible rfl)
            try simp only [Act.put, List.setIfInBounds_toArray, List.set_cons_zero, List.set_cons_succ]
            refine wpAnyH_done (by kernel_rfl) ?_ _
            have BB := Lib.hid PD.out.1.1
            obtain ⟨z0, z1, z2, z3, z4, z5⟩ := PD.out.1.2.2.cells
            clear H PD
            go_wp2_with fail
            exact bodyPost_ret (v := .tuple #[whV (⟨8, oo, false, true, false, 8⟩ : Wh), .bool true]) (by simp [results, Try.results62, go_sem, z0, z1, z2, z3, z4, z5]) rfl ⟨by first | rfl | rw [E.out], BB.out⟩
        · skip
          have E : Hid ((x.imm == 0 || x.imm == 64 || x.imm == 80 || x.imm == 160) = true) := Lib.hid (by simp [t0, t1])
          go_upto_region 16 with fail
          refine wp_region_held_drew (S := (fun w' => (w'.cell? ⟨w.heap.size, 0, none⟩ = some (.int .u8 x.op) ∧ w'.cell? ⟨w.heap.size, 1, none⟩ = some (.int .u8 x.dst) ∧ w'.cell? ⟨w.heap.size, 2, none⟩ = some (.int .u8 x.src) ∧ w'.cell? ⟨w.heap.size, 3, none⟩ = some (.int .i16 x.off) ∧ w'.cell? ⟨w.heap.size, 4, none⟩ = some (.int .i32 x.imm)) ∧ (w'.cell? ⟨gb, 0, none⟩ = some (.int .u8 (⟨8, oo, false, true, false, 8⟩ : Wh).kind) ∧ w'.cell? ⟨gb, 1, none⟩ = some (.int .u8 (⟨8, oo, false, true, false, 8⟩ : Wh).op) ∧ w'.cell? ⟨gb, 2, none⟩ = some (.bool (⟨8, oo, false, true, false, 8⟩ : Wh).wide) ∧ w'.cell? ⟨gb, 3, none⟩ = some (.bool (⟨8, oo, false, true, false, 8⟩ : Wh).reg) ∧ w'.cell? ⟨gb, 4, none⟩ = some (.bool (⟨8, oo, false, true, false, 8⟩ : Wh).signed) ∧ w'.cell? ⟨gb, 5, none⟩ = some (.int .i64 (⟨8, oo, false, true, false, 8⟩ : Wh).size)))) (by kernel_rfl) (H.out _ _ PD.out) (fun hHeld => ?_)
          refine wpAnyH_take (i := 0) (oi := { dst := some 75, op := Op.load 26 (Operand.tmp 8), type := 26, pos := "ref.go:74", after := #[], guard := none }) (v := ?_) rfl (by kernel_rfl) (by kernel_rfl) (by kernel_rfl) (fun _ _ _ h => h) (Or.inl ⟨by rfl, ?_⟩) (by assumption) ?_
          rotate_left 1
          · intro w hSw; (try dsimp only at hSw); go_simp; try (with_reducible rfl)
          try simp only [Act.put, List.setIfInBounds_toArray, List.set_cons_zero, List.set_cons_succ]
          refine wpAnyH_take (i := 1) (oi := { dst := some 76, op := Op.fieldAddr 24 (Operand.tmp 1) 4, type := 0, pos := "ref.go:74", after := #[], guard := none }) (v := ?_) rfl (by kernel_rfl) (by kernel_rfl) (by kernel_rfl) (fun _ _ _ h => h) (Or.inl ⟨by rfl, ?_⟩) (by assumption) ?_
          rotate_left 1
          · intro w hSw; (try dsimp only at hSw); go_simp; try (with_reducible rfl)
          try simp only [Act.put, List.setIfInBounds_toArray, List.set_cons_zero, List.set_cons_succ]
          refine wpAnyH_take (i := 2) (oi := { dst := some 77, op := Op.load 21 (Operand.tmp 76), type := 21, pos := "ref.go:74", after := #[{ on := 1, ground := Ground.data }], guard := none }) (v := ?_) rfl (by kernel_rfl) (by kernel_rfl) (by kernel_rfl) (fun _ _ _ h => h) (Or.inl ⟨by rfl, ?_⟩) (by assumption) ?_
          rotate_left 1
          · intro w hSw; (try dsimp only at hSw); go_simp; try (with_reducible rfl)
          try simp only [Act.put, List.setIfInBounds_toArray, List.set_cons_zero, List.set_cons_succ]
          refine wpAnyH_take (i := 3) (oi := { dst := some 78, op := Op.binOp BinOp.eql 21 (Operand.tmp 77) (Operand.const (Value.int IntKind.i32 0)) 21, type := 4, pos := "ref.go:74", after := #[{ on := 2, ground := Ground.data }], guard := none }) (v := ?_) rfl (by kernel_rfl) (by kernel_rfl) (by kernel_rfl) (fun _ _ _ h => h) (Or.inl ⟨by rfl, ?_⟩) (by assumption) ?_
          rotate_left 1
          · intro w hSw; (try dsimp only at hSw); go_simp; try (with_reducible rfl)
          try simp only [Act.put, List.setIfInBounds_toArray, List.set_cons_zero, List.set_cons_succ]
          refine wpAnyH_take (i := 4) (oi := { dst := some 79, op := Op.move (Operand.tmp 78), type := 4, pos := "ref.go:74", after := #[{ on := 3, ground := Ground.data }], guard := none }) (v := ?_) rfl (by kernel_rfl) (by kernel_rfl) (by kernel_rfl) (fun _ _ _ h => h) (Or.inl ⟨by rfl, ?_⟩) (by assumption) ?_
          rotate_left 1
          · intro w hSw; (try dsimp only at hSw); go_simp; try (with_reducible rfl)
          try simp only [Act.put, List.setIfInBounds_toArray, List.set_cons_zero, List.set_cons_succ]
          refine wpAnyH_take (i := 5) (oi := { dst := some 80, op := Op.fieldAddr 24 (Operand.tmp 1) 4, type := 0, pos := "ref.go:74", after := #[{ on := 4, ground := Ground.guard }], guard := some (4, false) }) (v := ?_) rfl (by kernel_rfl) (by kernel_rfl) (by kernel_rfl) (fun _ _ _ h => h) (Or.inl ⟨by rfl, ?_⟩) (by assumption) ?_
          rotate_left 1
          · intro w hSw; (try dsimp only at hSw); go_simp; try (with_reducible rfl)
          try simp only [Act.put, List.setIfInBounds_toArray, List.set_cons_zero, List.set_cons_succ]
          refine wpAnyH_take (i := 6) (oi := { dst := some 81, op := Op.load 21 (Operand.tmp 80), type := 21, pos := "ref.go:74", after := #[{ on := 5, ground := Ground.data }, { on := 4, ground := Ground.guard }], guard := some (4, false) }) (v := ?_) rfl (by kernel_rfl) (by kernel_rfl) (by kernel_rfl) (fun _ _ _ h => h) (Or.inl ⟨by rfl, ?_⟩) (by assumption) ?_
          rotate_left 1
          · intro w hSw; (try dsimp only at hSw); go_simp; try (with_reducible rfl)
          try simp only [Act.put, List.setIfInBounds_toArray, List.set_cons_zero, List.set_cons_succ]
          refine wpAnyH_take (i := 7) (oi := { dst := some 82, op := Op.binOp BinOp.eql 21 (Operand.tmp 81) (Operand.const (Value.int IntKind.i32 64)) 21, type := 4, pos := "ref.go:74", after := #[{ on := 6, ground := Ground.data }, { on := 4, ground := Ground.guard }], guard := some (4, false) }) (v := ?_) rfl (by kernel_rfl) (by kernel_rfl) (by kernel_rfl) (fun _ _ _ h => h) (Or.inl ⟨by rfl, ?_⟩) (by assumption) ?_
          rotate_left 1
          · intro w hSw; (try dsimp only at hSw); go_simp; try (with_reducible rfl)
          try simp only [Act.put, List.setIfInBounds_toArray, List.set_cons_zero, List.set_cons_succ]
          refine wpAnyH_take (i := 8) (oi := { dst := some 83, op := Op.pick (Operand.tmp 79) (Operand.const (Value.bool true)) (Operand.tmp 82), type := 4, pos := "ref.go:74", after := #[{ on := 4, ground := Ground.data }, { on := 7, ground := Ground.data }], guard := none }) (v := ?_) rfl (by kernel_rfl) (by kernel_rfl) (by kernel_rfl) (fun _ _ _ h => h) (Or.inl ⟨by rfl, ?_⟩) (by assumption) ?_
          rotate_left 1
          · intro w hSw; (try dsimp only at hSw); go_simp; try (with_reducible rfl)
          try simp only [Act.put, List.setIfInBounds_toArray, List.set_cons_zero, List.set_cons_succ]
          refine wpAnyH_take (i := 9) (oi := { dst := some 84, op := Op.move (Operand.tmp 83), type := 4, pos := "ref.go:74", after := #[{ on := 8, ground := Ground.data }, { on := 4, ground := Ground.chain }], guard := none }) (v := ?_) rfl (by kernel_rfl) (by kernel_rfl) (by kernel_rfl) (fun _ _ _ h => h) (Or.inl ⟨by rfl, ?_⟩) (by assumption) ?_
          rotate_left 1
          · intro w hSw; (try dsimp only at hSw); go_simp; try (with_reducible rfl)
          try simp only [Act.put, List.setIfInBounds_toArray, List.set_cons_zero, List.set_cons_succ]
          refine wpAnyH_take (i := 10) (oi := { dst := some 85, op := Op.fieldAddr 24 (Operand.tmp 1) 4, type := 0, pos := "ref.go:74", after := #[{ on := 9, ground := Ground.guard }], guard := some (9, false) }) (v := undef) rfl (by kernel_rfl) (by kernel_rfl) (by kernel_rfl) (fun _ _ _ h => h) (Or.inr ⟨by rfl, rfl⟩) (by assumption) ?_
          try simp only [Act.put, List.setIfInBounds_toArray, List.set_cons_zero, List.set_cons_succ]
          refine wpAnyH_take (i := 11) (oi := { dst := some 86, op := Op.load 21 (Operand.tmp 85), type := 21, pos := "ref.go:74", after := #[{ on := 10, ground := Ground.data }, { on := 9, ground := Ground.guard }], guard := some (9, false) }) (v := undef) rfl (by kernel_rfl) (by kernel_rfl) (by kernel_rfl) (fun _ _ _ h => h) (Or.inr ⟨by rfl, rfl⟩) (by assumption) ?_
          try simp only [Act.put, List.setIfInBounds_toArray, List.set_cons_zero, List.set_cons_succ]
          refine wpAnyH_take (i := 12) (oi := { dst := some 87, op := Op.binOp BinOp.eql 21 (Operand.tmp 86) (Operand.const (Value.int IntKind.i32 80)) 21, type := 4, pos := "ref.go:74", after := #[{ on := 11, ground := Ground.data }, { on := 9, ground := Ground.guard }], guard := some (9, false) }) (v := undef) rfl (by kernel_rfl) (by kernel_rfl) (by kernel_rfl) (fun _ _ _ h => h) (Or.inr ⟨by rfl, rfl⟩) (by assumption) ?_
          try simp only [Act.put, List.setIfInBounds_toArray, List.set_cons_zero, List.set_cons_succ]
          refine wpAnyH_take (i := 13) (oi := { dst := some 88, op := Op.pick (Operand.tmp 84) (Operand.const (Value.bool true)) (Operand.tmp 87), type := 4, pos := "ref.go:74", after := #[{ on := 9, ground := Ground.data }, { on := 12, ground := Ground.data }], guard := none }) (v := ?_) rfl (by kernel_rfl) (by kernel_rfl) (by kernel_rfl) (fun _ _ _ h => h) (Or.inl ⟨by rfl, ?_⟩) (by assumption) ?_
          rotate_left 1
          · intro w hSw; (try dsimp only at hSw); go_simp; try (with_reducible rfl)
          try simp only [Act.put, List.setIfInBounds_toArray, List.set_cons_zero, List.set_cons_succ]
          refine wpAnyH_take (i := 14) (oi := { dst := some 89, op := Op.move (Operand.tmp 88), type := 4, pos := "ref.go:74", after := #[{ on := 13, ground := Ground.data }, { on := 9, ground := Ground.chain }], guard := none }) (v := ?_) rfl (by kernel_rfl) (by kernel_rfl) (by kernel_rfl) (fun _ _ _ h => h) (Or.inl ⟨by rfl, ?_⟩) (by assumption) ?_
          rotate_left 1
          · intro w hSw; (try dsimp only at hSw); go_simp; try (with_reducible rfl)
          try simp only [Act.put, List.setIfInBounds_toArray, List.set_cons_zero, List.set_cons_succ]
          refine wpAnyH_take (i := 15) (oi := { dst := some 90, op := Op.fieldAddr 24 (Operand.tmp 1) 4, type := 0, pos := "ref.go:74", after := #[{ on := 14, ground := Ground.guard }, { on := 19, ground := Ground.gcOnly Departure.lateStores }], guard := some (14, false) }) (v := undef) rfl (by kernel_rfl) (by kernel_rfl) (by kernel_rfl) (fun _ _ _ h => h) (Or.inr ⟨by rfl, rfl⟩) (by assumption) ?_
          try simp only [Act.put, List.setIfInBounds_toArray, List.set_cons_zero, List.set_cons_succ]
          refine wpAnyH_take (i := 16) (oi := { dst := some 91, op := Op.load 21 (Operand.tmp 90), type := 21, pos := "ref.go:74", after := #[{ on := 15, ground := Ground.data }, { on := 14, ground := Ground.guard }, { on := 19, ground := Ground.gcOnly Departure.lateStores }], guard := some (14, false) }) (v := undef) rfl (by kernel_rfl) (by kernel_rfl) (by kernel_rfl) (fun _ _ _ h => h) (Or.inr ⟨by rfl, rfl⟩) (by assumption) ?_
          try simp only [Act.put, List.setIfInBounds_toArray, List.set_cons_zero, List.set_cons_succ]
          refine wpAnyH_take (i := 17) (oi := { dst := some 92, op := Op.binOp BinOp.eql 21 (Operand.tmp 91) (Operand.const (Value.int IntKind.i32 160)) 21, type := 4, pos := "ref.go:74", after := #[{ on := 16, ground := Ground.data }, { on := 14, ground := Ground.guard }, { on := 19, ground := Ground.gcOnly Departure.lateStores }], guard := some (14, false) }) (v := undef) rfl (by kernel_rfl) (by kernel_rfl) (by kernel_rfl) (fun _ _ _ h => h) (Or.inr ⟨by rfl, rfl⟩) (by assumption) ?_
          try simp only [Act.put, List.setIfInBounds_toArray, List.set_cons_zero, List.set_cons_succ]
          refine wpAnyH_take (i := 18) (oi := { dst := some 93, op := Op.pick (Operand.tmp 89) (Operand.const (Value.bool true)) (Operand.tmp 92), type := 4, pos := "ref.go:74", after := #[{ on := 14, ground := Ground.data }, { on := 17, ground := Ground.data }, { on := 19, ground := Ground.gcOnly Departure.lateStores }], guard := none }) (v := ?_) rfl (by kernel_rfl) (by kernel_rfl) (by kernel_rfl) (fun _ _ _ h => h) (Or.inl ⟨by rfl, ?_⟩) (by assumption) ?_
          rotate_left 1
          · intro w hSw; (try dsimp only at hSw); go_simp; try (with_reducible rfl)
          try simp only [Act.put, List.setIfInBounds_toArray, List.set_cons_zero, List.set_cons_succ]
          obtain ⟨f0, f1, f2, f3, f4, f5⟩ := Q.out.1.2.2.free
          obtain ⟨z0, z1, z2, z3, z4, z5⟩ := Q.out.1.2.2.cells
          refine wpAnyH_ready (rs := [19]) (by kernel_rfl) (by simp) ?_
          refine AllReadyH.cons (o := { dst := none, op := Op.store 26 (Operand.tmp 2) (Operand.tmp 75), type := 0, pos := "ref.go:74", after := #[{ on := 0, ground := Ground.data }, { on := 14, ground := Ground.chain }, { on := 0, ground := Ground.phase }, { on := 1, ground := Ground.textOnly Departure.lateStores }, { on := 2, ground := Ground.textOnly Departure.lateStores }, { on := 3, ground := Ground.textOnly Departure.lateStores }, { on := 4, ground := Ground.textOnly Departure.lateStores }, { on := 5, ground := Ground.textOnly Departure.lateStores }, { on := 6, ground := Ground.textOnly Departure.lateStores }, { on := 7, ground := Ground.textOnly Departure.lateStores }, { on := 8, ground := Ground.textOnly Departure.lateStores }, { on := 9, ground := Ground.textOnly Departure.lateStores }, { on := 10, ground := Ground.textOnly Departure.lateStores }, { on := 11, ground := Ground.textOnly Departure.lateStores }, { on := 12, ground := Ground.textOnly Departure.lateStores }, { on := 13, ground := Ground.textOnly Departure.lateStores }, { on := 14, ground := Ground.textOnly Departure.lateStores }, { on := 15, ground := Ground.textOnly Departure.lateStores }, { on := 16, ground := Ground.textOnly Departure.lateStores }, { on := 17, ground := Ground.textOnly Departure.lateStores }, { on := 18, ground := Ground.textOnly Departure.lateStores }], guard := none }) rfl (fun K hK => ?_) AllReadyH.nil
          go_simp
          replace PD := Lib.hid (And.intro ((Q.out.1.set (⟨8, oo, false, true, false, 8⟩ : Wh)).after (Below.drew (Below.refl _ _))) ((Q.out.2.whs (k := w.heap.size + 1) (⟨8, oo, false, true, false, 8⟩ : Wh) (by omega)).after (Below.drew (Below.refl _ _))))
          clear f0 f1 f2 f3 f4 f5 z0 z1 z2 z3 z4 z5
          refine hK.out _ _ (H.out _ _ PD.out) (fun hHeld => ?_)
          clear hK K
          try simp only [Act.put, List.setIfInBounds_toArray, List.set_cons_zero, List.set_cons_succ]
          refine wpAnyH_take (i := 20) (oi := { dst := some 3, op := Op.assign (Operand.tmp 93), type := 4, pos := "ref.go:74", after := #[{ on := 18, ground := Ground.data }, { on := 19, ground := Ground.chain }, { on := 0, ground := Ground.phase }, { on := 1, ground := Ground.phase }, { on := 2, ground := Ground.phase }, { on := 3, ground := Ground.phase }, { on := 4, ground := Ground.phase }, { on := 5, ground := Ground.phase }, { on := 6, ground := Ground.phase }, { on := 7, ground := Ground.phase }, { on := 8, ground := Ground.phase }, { on := 9, ground := Ground.phase }, { on := 10, ground := Ground.phase }, { on := 11, ground := Ground.phase }, { on := 12, ground := Ground.phase }, { on := 13, ground := Ground.phase }, { on := 14, ground := Ground.phase }, { on := 15, ground := Ground.phase }, { on := 16, ground := Ground.phase }, { on := 17, ground := Ground.phase }, { on := 18, ground := Ground.phase }, { on := 19, ground := Ground.phase }], guard := none }) (v := ?_) rfl (by kernel_rfl) (by kernel_rfl) (by kernel_rfl) (fun _ _ _ h => h) (Or.inl ⟨by rfl, ?_⟩) (by assumption) ?_
          rotate_left 1
          · intro w hSw; (try dsimp only at hSw); go_simp; try (with_reducible rfl)
          try simp only [Act.put, List.setIfInBounds_toArray, List.set_cons_zero, List.set_cons_succ]
          refine wpAnyH_done (by kernel_rfl) ?_ _
          have BB := Lib.hid PD.out.1.1
          obtain ⟨z0, z1, z2, z3, z4, z5⟩ := PD.out.1.2.2.cells
          clear H PD
          go_wp2_with fail
          exact bodyPost_ret (v := .tuple #[whV (⟨8, oo, false, true, false, 8⟩ : Wh), .bool true]) (by simp [results, Try.results62, go_sem, z0, z1, z2, z3, z4, z5]) rfl ⟨by first | rfl | rw [E.out], BB.out⟩
      · skip
        have E : Hid ((x.imm == 0 || x.imm == 64 || x.imm == 80 || x.imm == 160) = true) := Lib.hid (by simp [t0])
        go_upto_region 16 with fail
        refine wp_region_held_drew (S := (fun w' => (w'.cell? ⟨w.heap.size, 0, none⟩ = some (.int .u8 x.op) ∧ w'.cell? ⟨w.heap.size, 1, none⟩ = some (.int .u8 x.dst) ∧ w'.cell? ⟨w.heap.size, 2, none⟩ = some (.int .u8 x.src) ∧ w'.cell? ⟨w.heap.size, 3, none⟩ = some (.int .i16 x.off) ∧ w'.cell? ⟨w.heap.size, 4, none⟩ = some (.int .i32 x.imm)) ∧ (w'.cell? ⟨gb, 0, none⟩ = some (.int .u8 (⟨8, oo, false, true, false, 8⟩ : Wh).kind) ∧ w'.cell? ⟨gb, 1, none⟩ = some (.int .u8 (⟨8, oo, false, true, false, 8⟩ : Wh).op) ∧ w'.cell? ⟨gb, 2, none⟩ = some (.bool (⟨8, oo, false, true, false, 8⟩ : Wh).wide) ∧ w'.cell? ⟨gb, 3, none⟩ = some (.bool (⟨8, oo, false, true, false, 8⟩ : Wh).reg) ∧ w'.cell? ⟨gb, 4, none⟩ = some (.bool (⟨8, oo, false, true, false, 8⟩ : Wh).signed) ∧ w'.cell? ⟨gb, 5, none⟩ = some (.int .i64 (⟨8, oo, false, true, false, 8⟩ : Wh).size)))) (by kernel_rfl) (H.out _ _ PD.out) (fun hHeld => ?_)
        refine wpAnyH_take (i := 0) (oi := { dst := some 75, op := Op.load 26 (Operand.tmp 8), type := 26, pos := "ref.go:74", after := #[], guard := none }) (v := ?_) rfl (by kernel_rfl) (by kernel_rfl) (by kernel_rfl) (fun _ _ _ h => h) (Or.inl ⟨by rfl, ?_⟩) (by assumption) ?_
        rotate_left 1
        · intro w hSw; (try dsimp only at hSw); go_simp; try (with_reducible rfl)
        try simp only [Act.put, List.setIfInBounds_toArray, List.set_cons_zero, List.set_cons_succ]
        refine wpAnyH_take (i := 1) (oi := { dst := some 76, op := Op.fieldAddr 24 (Operand.tmp 1) 4, type := 0, pos := "ref.go:74", after := #[], guard := none }) (v := ?_) rfl (by kernel_rfl) (by kernel_rfl) (by kernel_rfl) (fun _ _ _ h => h) (Or.inl ⟨by rfl, ?_⟩) (by assumption) ?_
        rotate_left 1
        · intro w hSw; (try dsimp only at hSw); go_simp; try (with_reducible rfl)
        try simp only [Act.put, List.setIfInBounds_toArray, List.set_cons_zero, List.set_cons_succ]
        refine wpAnyH_take (i := 2) (oi := { dst := some 77, op := Op.load 21 (Operand.tmp 76), type := 21, pos := "ref.go:74", after := #[{ on := 1, ground := Ground.data }], guard := none }) (v := ?_) rfl (by kernel_rfl) (by kernel_rfl) (by kernel_rfl) (fun _ _ _ h => h) (Or.inl ⟨by rfl, ?_⟩) (by assumption) ?_
        rotate_left 1
        · intro w hSw; (try dsimp only at hSw); go_simp; try (with_reducible rfl)
        try simp only [Act.put, List.setIfInBounds_toArray, List.set_cons_zero, List.set_cons_succ]
        refine wpAnyH_take (i := 3) (oi := { dst := some 78, op := Op.binOp BinOp.eql 21 (Operand.tmp 77) (Operand.const (Value.int IntKind.i32 0)) 21, type := 4, pos := "ref.go:74", after := #[{ on := 2, ground := Ground.data }], guard := none }) (v := ?_) rfl (by kernel_rfl) (by kernel_rfl) (by kernel_rfl) (fun _ _ _ h => h) (Or.inl ⟨by rfl, ?_⟩) (by assumption) ?_
        rotate_left 1
        · intro w hSw; (try dsimp only at hSw); go_simp; try (with_reducible rfl)
        try simp only [Act.put, List.setIfInBounds_toArray, List.set_cons_zero, List.set_cons_succ]
        refine wpAnyH_take (i := 4) (oi := { dst := some 79, op := Op.move (Operand.tmp 78), type := 4, pos := "ref.go:74", after := #[{ on := 3, ground := Ground.data }], guard := none }) (v := ?_) rfl (by kernel_rfl) (by kernel_rfl) (by kernel_rfl) (fun _ _ _ h => h) (Or.inl ⟨by rfl, ?_⟩) (by assumption) ?_
        rotate_left 1
        · intro w hSw; (try dsimp only at hSw); go_simp; try (with_reducible rfl)
        try simp only [Act.put, List.setIfInBounds_toArray, List.set_cons_zero, List.set_cons_succ]
        refine wpAnyH_take (i := 5) (oi := { dst := some 80, op := Op.fieldAddr 24 (Operand.tmp 1) 4, type := 0, pos := "ref.go:74", after := #[{ on := 4, ground := Ground.guard }], guard := some (4, false) }) (v := undef) rfl (by kernel_rfl) (by kernel_rfl) (by kernel_rfl) (fun _ _ _ h => h) (Or.inr ⟨by rfl, rfl⟩) (by assumption) ?_
        try simp only [Act.put, List.setIfInBounds_toArray, List.set_cons_zero, List.set_cons_succ]
        refine wpAnyH_take (i := 6) (oi := { dst := some 81, op := Op.load 21 (Operand.tmp 80), type := 21, pos := "ref.go:74", after := #[{ on := 5, ground := Ground.data }, { on := 4, ground := Ground.guard }], guard := some (4, false) }) (v := undef) rfl (by kernel_rfl) (by kernel_rfl) (by kernel_rfl) (fun _ _ _ h => h) (Or.inr ⟨by rfl, rfl⟩) (by assumption) ?_
        try simp only [Act.put, List.setIfInBounds_toArray, List.set_cons_zero, List.set_cons_succ]
        refine wpAnyH_take (i := 7) (oi := { dst := some 82, op := Op.binOp BinOp.eql 21 (Operand.tmp 81) (Operand.const (Value.int IntKind.i32 64)) 21, type := 4, pos := "ref.go:74", after := #[{ on := 6, ground := Ground.data }, { on := 4, ground := Ground.guard }], guard := some (4, false) }) (v := undef) rfl (by kernel_rfl) (by kernel_rfl) (by kernel_rfl) (fun _ _ _ h => h) (Or.inr ⟨by rfl, rfl⟩) (by assumption) ?_
        try simp only [Act.put, List.setIfInBounds_toArray, List.set_cons_zero, List.set_cons_succ]
        refine wpAnyH_take (i := 8) (oi := { dst := some 83, op := Op.pick (Operand.tmp 79) (Operand.const (Value.bool true)) (Operand.tmp 82), type := 4, pos := "ref.go:74", after := #[{ on := 4, ground := Ground.data }, { on := 7, ground := Ground.data }], guard := none }) (v := ?_) rfl (by kernel_rfl) (by kernel_rfl) (by kernel_rfl) (fun _ _ _ h => h) (Or.inl ⟨by rfl, ?_⟩) (by assumption) ?_
        rotate_left 1
        · intro w hSw; (try dsimp only at hSw); go_simp; try (with_reducible rfl)
        try simp only [Act.put, List.setIfInBounds_toArray, List.set_cons_zero, List.set_cons_succ]
        refine wpAnyH_take (i := 9) (oi := { dst := some 84, op := Op.move (Operand.tmp 83), type := 4, pos := "ref.go:74", after := #[{ on := 8, ground := Ground.data }, { on := 4, ground := Ground.chain }], guard := none }) (v := ?_) rfl (by kernel_rfl) (by kernel_rfl) (by kernel_rfl) (fun _ _ _ h => h) (Or.inl ⟨by rfl, ?_⟩) (by assumption) ?_
        rotate_left 1
        · intro w hSw; (try dsimp only at hSw); go_simp; try (with_reducible rfl)
        try simp only [Act.put, List.setIfInBounds_toArray, List.set_cons_zero, List.set_cons_succ]
        refine wpAnyH_take (i := 10) (oi := { dst := some 85, op := Op.fieldAddr 24 (Operand.tmp 1) 4, type := 0, pos := "ref.go:74", after := #[{ on := 9, ground := Ground.guard }], guard := some (9, false) }) (v := undef) rfl (by kernel_rfl) (by kernel_rfl) (by kernel_rfl) (fun _ _ _ h => h) (Or.inr ⟨by rfl, rfl⟩) (by assumption) ?_
        try simp only [Act.put, List.setIfInBounds_toArray, List.set_cons_zero, List.set_cons_succ]
        refine wpAnyH_take (i := 11) (oi := { dst := some 86, op := Op.load 21 (Operand.tmp 85), type := 21, pos := "ref.go:74", after := #[{ on := 10, ground := Ground.data }, { on := 9, ground := Ground.guard }], guard := some (9, false) }) (v := undef) rfl (by kernel_rfl) (by kernel_rfl) (by kernel_rfl) (fun _ _ _ h => h) (Or.inr ⟨by rfl, rfl⟩) (by assumption) ?_
        try simp only [Act.put, List.setIfInBounds_toArray, List.set_cons_zero, List.set_cons_succ]
        refine wpAnyH_take (i := 12) (oi := { dst := some 87, op := Op.binOp BinOp.eql 21 (Operand.tmp 86) (Operand.const (Value.int IntKind.i32 80)) 21, type := 4, pos := "ref.go:74", after := #[{ on := 11, ground := Ground.data }, { on := 9, ground := Ground.guard }], guard := some (9, false) }) (v := undef) rfl (by kernel_rfl) (by kernel_rfl) (by kernel_rfl) (fun _ _ _ h => h) (Or.inr ⟨by rfl, rfl⟩) (by assumption) ?_
        try simp only [Act.put, List.setIfInBounds_toArray, List.set_cons_zero, List.set_cons_succ]
        refine wpAnyH_take (i := 13) (oi := { dst := some 88, op := Op.pick (Operand.tmp 84) (Operand.const (Value.bool true)) (Operand.tmp 87), type := 4, pos := "ref.go:74", after := #[{ on := 9, ground := Ground.data }, { on := 12, ground := Ground.data }], guard := none }) (v := ?_) rfl (by kernel_rfl) (by kernel_rfl) (by kernel_rfl) (fun _ _ _ h => h) (Or.inl ⟨by rfl, ?_⟩) (by assumption) ?_
        rotate_left 1
        · intro w hSw; (try dsimp only at hSw); go_simp; try (with_reducible rfl)
        try simp only [Act.put, List.setIfInBounds_toArray, List.set_cons_zero, List.set_cons_succ]
        refine wpAnyH_take (i := 14) (oi := { dst := some 89, op := Op.move (Operand.tmp 88), type := 4, pos := "ref.go:74", after := #[{ on := 13, ground := Ground.data }, { on := 9, ground := Ground.chain }], guard := none }) (v := ?_) rfl (by kernel_rfl) (by kernel_rfl) (by kernel_rfl) (fun _ _ _ h => h) (Or.inl ⟨by rfl, ?_⟩) (by assumption) ?_
        rotate_left 1
        · intro w hSw; (try dsimp only at hSw); go_simp; try (with_reducible rfl)
        try simp only [Act.put, List.setIfInBounds_toArray, List.set_cons_zero, List.set_cons_succ]
        refine wpAnyH_take (i := 15) (oi := { dst := some 90, op := Op.fieldAddr 24 (Operand.tmp 1) 4, type := 0, pos := "ref.go:74", after := #[{ on := 14, ground := Ground.guard }, { on := 19, ground := Ground.gcOnly Departure.lateStores }], guard := some (14, false) }) (v := undef) rfl (by kernel_rfl) (by kernel_rfl) (by kernel_rfl) (fun _ _ _ h => h) (Or.inr ⟨by rfl, rfl⟩) (by assumption) ?_
        try simp only [Act.put, List.setIfInBounds_toArray, List.set_cons_zero, List.set_cons_succ]
        refine wpAnyH_take (i := 16) (oi := { dst := some 91, op := Op.load 21 (Operand.tmp 90), type := 21, pos := "ref.go:74", after := #[{ on := 15, ground := Ground.data }, { on := 14, ground := Ground.guard }, { on := 19, ground := Ground.gcOnly Departure.lateStores }], guard := some (14, false) }) (v := undef) rfl (by kernel_rfl) (by kernel_rfl) (by kernel_rfl) (fun _ _ _ h => h) (Or.inr ⟨by rfl, rfl⟩) (by assumption) ?_
        try simp only [Act.put, List.setIfInBounds_toArray, List.set_cons_zero, List.set_cons_succ]
        refine wpAnyH_take (i := 17) (oi := { dst := some 92, op := Op.binOp BinOp.eql 21 (Operand.tmp 91) (Operand.const (Value.int IntKind.i32 160)) 21, type := 4, pos := "ref.go:74", after := #[{ on := 16, ground := Ground.data }, { on := 14, ground := Ground.guard }, { on := 19, ground := Ground.gcOnly Departure.lateStores }], guard := some (14, false) }) (v := undef) rfl (by kernel_rfl) (by kernel_rfl) (by kernel_rfl) (fun _ _ _ h => h) (Or.inr ⟨by rfl, rfl⟩) (by assumption) ?_
        try simp only [Act.put, List.setIfInBounds_toArray, List.set_cons_zero, List.set_cons_succ]
        refine wpAnyH_take (i := 18) (oi := { dst := some 93, op := Op.pick (Operand.tmp 89) (Operand.const (Value.bool true)) (Operand.tmp 92), type := 4, pos := "ref.go:74", after := #[{ on := 14, ground := Ground.data }, { on := 17, ground := Ground.data }, { on := 19, ground := Ground.gcOnly Departure.lateStores }], guard := none }) (v := ?_) rfl (by kernel_rfl) (by kernel_rfl) (by kernel_rfl) (fun _ _ _ h => h) (Or.inl ⟨by rfl, ?_⟩) (by assumption) ?_
        rotate_left 1
        · intro w hSw; (try dsimp only at hSw); go_simp; try (with_reducible rfl)
        try simp only [Act.put, List.setIfInBounds_toArray, List.set_cons_zero, List.set_cons_succ]
        obtain ⟨f0, f1, f2, f3, f4, f5⟩ := Q.out.1.2.2.free
        obtain ⟨z0, z1, z2, z3, z4, z5⟩ := Q.out.1.2.2.cells
        refine wpAnyH_ready (rs := [19]) (by kernel_rfl) (by simp) ?_
        refine AllReadyH.cons (o := { dst := none, op := Op.store 26 (Operand.tmp 2) (Operand.tmp 75), type := 0, pos := "ref.go:74", after := #[{ on := 0, ground := Ground.data }, { on := 14, ground := Ground.chain }, { on := 0, ground := Ground.phase }, { on := 1, ground := Ground.textOnly Departure.lateStores }, { on := 2, ground := Ground.textOnly Departure.lateStores }, { on := 3, ground := Ground.textOnly Departure.lateStores }, { on := 4, ground := Ground.textOnly Departure.lateStores }, { on := 5, ground := Ground.textOnly Departure.lateStores }, { on := 6, ground := Ground.textOnly Departure.lateStores }, { on := 7, ground := Ground.textOnly Departure.lateStores }, { on := 8, ground := Ground.textOnly Departure.lateStores }, { on := 9, ground := Ground.textOnly Departure.lateStores }, { on := 10, ground := Ground.textOnly Departure.lateStores }, { on := 11, ground := Ground.textOnly Departure.lateStores }, { on := 12, ground := Ground.textOnly Departure.lateStores }, { on := 13, ground := Ground.textOnly Departure.lateStores }, { on := 14, ground := Ground.textOnly Departure.lateStores }, { on := 15, ground := Ground.textOnly Departure.lateStores }, { on := 16, ground := Ground.textOnly Departure.lateStores }, { on := 17, ground := Ground.textOnly Departure.lateStores }, { on := 18, ground := Ground.textOnly Departure.lateStores }], guard := none }) rfl (fun K hK => ?_) AllReadyH.nil
        go_simp
        replace PD := Lib.hid (And.intro ((Q.out.1.set (⟨8, oo, false, true, false, 8⟩ : Wh)).after (Below.drew (Below.refl _ _))) ((Q.out.2.whs (k := w.heap.size + 1) (⟨8, oo, false, true, false, 8⟩ : Wh) (by omega)).after (Below.drew (Below.refl _ _))))
        clear f0 f1 f2 f3 f4 f5 z0 z1 z2 z3 z4 z5
        refine hK.out _ _ (H.out _ _ PD.out) (fun hHeld => ?_)
        clear hK K
        try simp only [Act.put, List.setIfInBounds_toArray, List.set_cons_zero, List.set_cons_succ]
        refine wpAnyH_take (i := 20) (oi := { dst := some 3, op := Op.assign (Operand.tmp 93), type := 4, pos := "ref.go:74", after := #[{ on := 18, ground := Ground.data }, { on := 19, ground := Ground.chain }, { on := 0, ground := Ground.phase }, { on := 1, ground := Ground.phase }, { on := 2, ground := Ground.phase }, { on := 3, ground := Ground.phase }, { on := 4, ground := Ground.phase }, { on := 5, ground := Ground.phase }, { on := 6, ground := Ground.phase }, { on := 7, ground := Ground.phase }, { on := 8, ground := Ground.phase }, { on := 9, ground := Ground.phase }, { on := 10, ground := Ground.phase }, { on := 11, ground := Ground.phase }, { on := 12, ground := Ground.phase }, { on := 13, ground := Ground.phase }, { on := 14, ground := Ground.phase }, { on := 15, ground := Ground.phase }, { on := 16, ground := Ground.phase }, { on := 17, ground := Ground.phase }, { on := 18, ground := Ground.phase }, { on := 19, ground := Ground.phase }], guard := none }) (v := ?_) rfl (by kernel_rfl) (by kernel_rfl) (by kernel_rfl) (fun _ _ _ h => h) (Or.inl ⟨by rfl, ?_⟩) (by assumption) ?_
        rotate_left 1
        · intro w hSw; (try dsimp only at hSw); go_simp; try (with_reducible rfl)
        try simp only [Act.put, List.setIfInBounds_toArray, List.set_cons_zero, List.set_cons_succ]
        refine wpAnyH_done (by kernel_rfl) ?_ _
        have BB := Lib.hid PD.out.1.1
        obtain ⟨z0, z1, z2, z3, z4, z5⟩ := PD.out.1.2.2.cells
        clear H PD
        go_wp2_with fail
        exact bodyPost_ret (v := .tuple #[whV (⟨8, oo, false, true, false, 8⟩ : Wh), .bool true]) (by simp [results, Try.results62, go_sem, z0, z1, z2, z3, z4, z5]) rfl ⟨by first | rfl | rw [E.out], BB.out⟩

end Go.Proofs.Ytplndcjmbgkcjaa
