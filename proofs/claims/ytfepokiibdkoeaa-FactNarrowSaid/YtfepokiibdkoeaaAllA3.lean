/-
  Layer 6: what its laws share: plain numbers, the program's functions, the document's own Settle, Join, Cut.
  Conditions: those that each theorem states.
-/
import Derived.Test.YtfepokiibdkoeaaAllA2
import Derived.Deep.RegionWith
import Derived.RegionTactic
import Derived.BigRegion
import Derived.Test.YtfepokiibdkoeaaRows
import Derived.WalkKit
import Derived.ProofKit
import Derived.OpenShut
import Derived.ChangeOld
import Derived.Below
import Derived.Carry

/-
  What alu.Do makes of two numbers: aluV, and the error aluE.
  Conditions: the numbers fit their kinds.
-/
namespace Go.Proofs.Ytfepokiibdkoeaa
open Go.RowKit
set_option linter.unusedVariables false

/-- One number, and draws. -/
def Made (v : Int) (w : World) (e : Ending) (w' : World) : Prop := e = .returned (.int .u64 v) ∧ ∃ n, w' = w.drewN n
theorem made_of {P : Program} {f : FuncId} {args : Array Value} {w : World} {v : Int} (h : Calls P f args w fun e w' => e = .returned (.int .u64 v) ∧ w = w') : Calls P f args w (Made v w) :=
  h.mono fun _ _ ⟨he, hw⟩ => ⟨he, 0, hw.symm⟩

theorem made_64 (op off x y : Int) (w : World) (hf : aluFits op true off = true) (hx : 0 ≤ x) (hx' : x ≤ 18446744073709551615) (hy : 0 ≤ y) (hy' : y ≤ 18446744073709551615) :
    Calls Try.prog 91 #[.int .u8 op, .int .i64 64, .int .i64 off, .int .u64 x, .int .u64 y] w (Made (aluZ true op off x y % 18446744073709551616) w) := by
  rcases fits_ops hf with ⟨rfl, rfl⟩ | ⟨rfl, rfl⟩ | ⟨rfl, rfl⟩ | ⟨rfl, rfl⟩ | ⟨rfl, rfl⟩ | ⟨rfl, rfl⟩ | ⟨rfl, rfl⟩ | ⟨rfl, rfl⟩ | ⟨rfl, rfl⟩ | ⟨rfl, rfl⟩ | ⟨rfl, _⟩ | ⟨rfl, rfl | rfl⟩ | ⟨rfl, rfl | rfl⟩
  · exact made_of (made_add_64 x y w hx hx' hy hy')
  · exact made_of (made_sub_64 x y w hx hx' hy hy')
  · exact made_of (made_mul_64 x y w hx hx' hy hy')
  · exact made_of (made_or_64 x y w hx hx' hy hy')
  · exact made_of (made_and_64 x y w hx hx' hy hy')
  · exact made_of (made_xor_64 x y w hx hx' hy hy')
  · exact made_of (made_lsh_64 x y w hx hx' hy hy')
  · exact made_of (made_rsh_64 x y w hx hx' hy hy')
  · exact made_of (made_arsh_64 x y w hx hx' hy hy')
  · exact made_of (made_neg_64 x y w hx hx' hy hy')
  · exact made_of (made_mov_64 x y off w hx hx' hy hy')
  · exact made_div0_64 x y w hx hx' hy hy'
  · exact made_div1_64 x y w hx hx' hy hy'
  · exact made_mod0_64 x y w hx hx' hy hy'
  · exact made_mod1_64 x y w hx hx' hy hy'

theorem made_32 (op off x y : Int) (w : World) (hf : aluFits op false off = true) (hx : 0 ≤ x) (hx' : x ≤ 4294967295) (hy : 0 ≤ y) (hy' : y ≤ 4294967295) :
    Calls Try.prog 91 #[.int .u8 op, .int .i64 32, .int .i64 off, .int .u64 x, .int .u64 y] w (Made (aluZ false op off x y % 18446744073709551616) w) := by
  rcases fits_ops hf with ⟨rfl, rfl⟩ | ⟨rfl, rfl⟩ | ⟨rfl, rfl⟩ | ⟨rfl, rfl⟩ | ⟨rfl, rfl⟩ | ⟨rfl, rfl⟩ | ⟨rfl, rfl⟩ | ⟨rfl, rfl⟩ | ⟨rfl, rfl⟩ | ⟨rfl, rfl⟩ | ⟨rfl, _⟩ | ⟨rfl, rfl | rfl⟩ | ⟨rfl, rfl | rfl⟩
  · exact made_of (made_add_32 x y w hx hx' hy hy')
  · exact made_of (made_sub_32 x y w hx hx' hy hy')
  · exact made_of (made_mul_32 x y w hx hx' hy hy')
  · exact made_of (made_or_32 x y w hx hx' hy hy')
  · exact made_of (made_and_32 x y w hx hx' hy hy')
  · exact made_of (made_xor_32 x y w hx hx' hy hy')
  · exact made_of (made_lsh_32 x y w hx hx' hy hy')
  · exact made_of (made_rsh_32 x y w hx hx' hy hy')
  · exact made_of (made_arsh_32 x y w hx hx' hy hy')
  · exact made_of (made_neg_32 x y w hx hx' hy hy')
  · exact made_of (made_mov_32 x y off w hx hx' hy hy')
  · exact made_div0_32 x y w hx hx' hy hy'
  · exact made_div1_32 x y w hx hx' hy hy'
  · exact made_mod0_32 x y w hx hx' hy hy'
  · exact made_mod1_32 x y w hx hx' hy hy'

theorem did_none (op off a b : Int) (wide : Bool) (w : World) (hf : aluFits op wide off = false) :
    Calls Try.prog 63 #[.int .u8 op, .bool wide, .int .i16 off, .int .u64 a, .int .u64 b] w (Did (aluV wide op off a b) (aluE wide op off) w) := by
  have hc : ∀ w, Calls Try.prog 90 #[.int .u8 op, .bool wide, .int .i16 off] w fun e w' => e = .returned (.bool false) ∧ w = w' := fun w => by have h := fits_any op off wide w; rw [hf] at h; exact h
  have e1 : aluV wide op off a b = 0 := by unfold aluV; rw [hf]; rfl
  have e2 : aluE wide op off = 1 := by unfold aluE; rw [hf]; rfl
  rw [e1, e2]
  have HC := Lib.hid hc
  clear hc e1 e2 hf
  go_enter Try.func63, Try.ntmps63
  go_wp2_with (go_at_call 90; refine (HC.out _).mono ?_; rintro e w' ⟨rfl, rfl⟩)
  go_ret2
  exact ⟨rfl, 0, rfl⟩

set_option maxHeartbeats 1000000 in
theorem did_64 (op off a b : Int) (w : World) (ha : 0 ≤ a) (hb : 0 ≤ b) (hf : aluFits op true off = true) :
    Calls Try.prog 63 #[.int .u8 op, .bool true, .int .i16 off, .int .u64 a, .int .u64 b] w (Did (aluV true op off a b) (aluE true op off) w) := by
  have hc : ∀ w, Calls Try.prog 90 #[.int .u8 op, .bool true, .int .i16 off] w fun e w' => e = .returned (.bool true) ∧ w = w' := fun w => by have h := fits_any op off true w; rw [hf] at h; exact h
  have hm : ∀ w, Calls Try.prog 91 #[.int .u8 op, .int .i64 64, .int .i64 off, .int .u64 (a % 18446744073709551616), .int .u64 (b % 18446744073709551616)] w
      (Made (aluZ true op off (a % 18446744073709551616) (b % 18446744073709551616) % 18446744073709551616) w) := fun w => made_64 _ _ _ _ w hf (by omega) (by omega) (by omega) (by omega)
  have e1 : aluV true op off a b = aluZ true op off (a % 18446744073709551616) (b % 18446744073709551616) % 18446744073709551616 := by
    unfold aluV; rw [hf, if_pos rfl]; rfl
  have e2 : aluE true op off = 0 := by unfold aluE; rw [hf]; rfl
  rw [e1, e2]
  obtain ⟨ho, ho'⟩ := fits_off hf
  clear e1 e2 hf
  generalize aluZ _ op off _ _ = z at *
  have HC := Lib.hid hc
  have HM := Lib.hid hm
  clear hc hm
  go_enter Try.func63, Try.ntmps63
  go_wp2_with (first | (go_at_call 90; refine (HC.out _).mono ?_; rintro e w' ⟨rfl, rfl⟩) | (go_at_call 92; refine (cut_64 _ _ (by omega)).mono ?_; rintro e w' ⟨rfl, rfl⟩) | (go_at_call 91; refine (HM.out _).mono ?_; rintro e w' ⟨rfl, n, rfl⟩))
  go_ret2
  exact ⟨rfl, _, rfl⟩

set_option maxHeartbeats 1000000 in
theorem did_32 (op off a b : Int) (w : World) (ha : 0 ≤ a) (hb : 0 ≤ b) (hf : aluFits op false off = true) :
    Calls Try.prog 63 #[.int .u8 op, .bool false, .int .i16 off, .int .u64 a, .int .u64 b] w (Did (aluV false op off a b) (aluE false op off) w) := by
  have hc : ∀ w, Calls Try.prog 90 #[.int .u8 op, .bool false, .int .i16 off] w fun e w' => e = .returned (.bool true) ∧ w = w' := fun w => by have h := fits_any op off false w; rw [hf] at h; exact h
  have hm : ∀ w, Calls Try.prog 91 #[.int .u8 op, .int .i64 32, .int .i64 off, .int .u64 (a % 4294967296), .int .u64 (b % 4294967296)] w
      (Made (aluZ false op off (a % 4294967296) (b % 4294967296) % 18446744073709551616) w) := fun w => made_32 _ _ _ _ w hf (by omega) (by omega) (by omega) (by omega)
  have e1 : aluV false op off a b = aluZ false op off (a % 4294967296) (b % 4294967296) % 4294967296 := by
    unfold aluV; rw [hf, if_pos rfl]; rfl
  have e2 : aluE false op off = 0 := by unfold aluE; rw [hf]; rfl
  rw [e1, e2]
  obtain ⟨ho, ho'⟩ := fits_off hf
  clear e1 e2 hf
  generalize aluZ _ op off _ _ = z at *
  have HC := Lib.hid hc
  have HM := Lib.hid hm
  clear hc hm
  go_enter Try.func63, Try.ntmps63
  go_wp2_with (first | (go_at_call 90; refine (HC.out _).mono ?_; rintro e w' ⟨rfl, rfl⟩) | (go_at_call 92; refine (cut_32 _ _ (by omega)).mono ?_; rintro e w' ⟨rfl, rfl⟩) | (go_at_call 91; refine (HM.out _).mono ?_; rintro e w' ⟨rfl, n, rfl⟩))
  go_ret2
  exact ⟨rfl, _, rfl⟩

/-- Do, of whatever op and numbers. -/
theorem did_any (op off a b : Int) (wide : Bool) (w : World) (ha : 0 ≤ a) (hb : 0 ≤ b) :
    Calls Try.prog 63 #[.int .u8 op, .bool wide, .int .i16 off, .int .u64 a, .int .u64 b] w (Did (aluV wide op off a b) (aluE wide op off) w) := by
  cases hf : aluFits op wide off
  · exact did_none op off a b wide w hf
  · cases wide
    · exact did_32 op off a b w ha hb hf
    · exact did_64 op off a b w ha hb hf

end Go.Proofs.Ytfepokiibdkoeaa


/-
  The program's fact: what is known of what arithmetic makes, ahead of the cut.
  Conditions: the numbers fit their kinds.
-/
namespace Go.Proofs.Ytfepokiibdkoeaa
open Go.RowKit
set_option linter.unusedVariables false

set_option maxRecDepth 100000 in
set_option maxHeartbeats 2000000 in
theorem fp_made_first (op off : Int) (wide : Bool) (x y : Fc) (w : World)
    (F : Hid (∀ w, Calls Try.prog 93 #[.int .u8 op, .int .i16 off, fV x, fV y] w (Gives (.int .u8 2) w))) :
    Calls Try.prog 64 #[.int .u8 op, .bool wide, .int .i16 off, fV x, fV y] w (Gives (fV x) w) := by
  have hx := Lib.hid (FTri.new x y fZ w)
  go_enter Try.func64, Try.ntmps64
  go_wp2_with fail
  refine (F.out _).mono ?_; rintro e w1 ⟨rfl, b1⟩
  have x1 := hx.out.after b1
  clear hx b1
  obtain ⟨p0, p1, p2, p3⟩ := x1.1.2.1.cells
  obtain ⟨q0, q1, q2, q3⟩ := x1.1.2.2.cells
  obtain ⟨e0, e1, e2, e3⟩ := x1.2.cells
  obtain ⟨g0, g1, g2, g3⟩ := x1.2.free
  have XE := Lib.hid (x1.set x)
  clear x1
  go_wp2_with fail
  exact bodyPost_ret (v := fV x) (by simp [results, Try.results64, go_sem, e0, e1, e2, e3]) rfl ⟨rfl, XE.out.1.1⟩

set_option maxRecDepth 100000 in
set_option maxHeartbeats 2000000 in
theorem fp_made_second (op off : Int) (wide : Bool) (x y : Fc) (w : World)
    (F : Hid (∀ w, Calls Try.prog 93 #[.int .u8 op, .int .i16 off, fV x, fV y] w (Gives (.int .u8 3) w))) :
    Calls Try.prog 64 #[.int .u8 op, .bool wide, .int .i16 off, fV x, fV y] w (Gives (fV y) w) := by
  have hx := Lib.hid (FTri.new x y fZ w)
  go_enter Try.func64, Try.ntmps64
  go_wp2_with fail
  refine (F.out _).mono ?_; rintro e w1 ⟨rfl, b1⟩
  have x1 := hx.out.after b1
  clear hx b1
  obtain ⟨p0, p1, p2, p3⟩ := x1.1.2.1.cells
  obtain ⟨q0, q1, q2, q3⟩ := x1.1.2.2.cells
  obtain ⟨e0, e1, e2, e3⟩ := x1.2.cells
  obtain ⟨g0, g1, g2, g3⟩ := x1.2.free
  have XE := Lib.hid (x1.set y)
  clear x1
  go_wp2_with fail
  exact bodyPost_ret (v := fV y) (by simp [results, Try.results64, go_sem, e0, e1, e2, e3]) rfl ⟨rfl, XE.out.1.1⟩

set_option maxRecDepth 100000 in
set_option maxHeartbeats 2000000 in
theorem fp_made_untold (op off : Int) (wide : Bool) (x y : Fc) (w : World)
    (g : Fc) (A : Hid (∀ w, Calls Try.prog 21 #[] w (Gives (fV g) w)))
    (F : Hid (∀ w, Calls Try.prog 93 #[.int .u8 op, .int .i16 off, fV x, fV y] w (Gives (.int .u8 0) w))) :
    Calls Try.prog 64 #[.int .u8 op, .bool wide, .int .i16 off, fV x, fV y] w (Gives (fV g) w) := by
  have hx := Lib.hid (FTri.new x y fZ w)
  go_enter Try.func64, Try.ntmps64
  go_wp2_with fail
  refine (F.out _).mono ?_; rintro e w1 ⟨rfl, b1⟩
  have x1 := hx.out.after b1
  clear hx b1
  go_wp2_with fail
  refine (A.out _).mono ?_; rintro e w2 ⟨rfl, b2⟩
  have x2 := x1.after b2
  clear x1 b2
  obtain ⟨e0, e1, e2, e3⟩ := x2.2.cells
  obtain ⟨g0, g1, g2, g3⟩ := x2.2.free
  have XE := Lib.hid (x2.set g)
  clear x2
  go_wp2_with fail
  exact bodyPost_ret (v := fV g) (by simp [results, Try.results64, go_sem, e0, e1, e2, e3]) rfl ⟨rfl, XE.out.1.1⟩

set_option maxRecDepth 100000 in
set_option maxHeartbeats 2000000 in
theorem fp_made_nought (op off : Int) (wide : Bool) (x y : Fc) (w : World)
    (g : Fc) (A : Hid (∀ w, Calls Try.prog 19 #[.int .u64 0] w (Gives (fV g) w)))
    (F : Hid (∀ w, Calls Try.prog 93 #[.int .u8 op, .int .i16 off, fV x, fV y] w (Gives (.int .u8 4) w))) :
    Calls Try.prog 64 #[.int .u8 op, .bool wide, .int .i16 off, fV x, fV y] w (Gives (fV g) w) := by
  have hx := Lib.hid (FTri.new x y fZ w)
  go_enter Try.func64, Try.ntmps64
  go_wp2_with fail
  refine (F.out _).mono ?_; rintro e w1 ⟨rfl, b1⟩
  have x1 := hx.out.after b1
  clear hx b1
  go_wp2_with fail
  refine (A.out _).mono ?_; rintro e w2 ⟨rfl, b2⟩
  have x2 := x1.after b2
  clear x1 b2
  obtain ⟨e0, e1, e2, e3⟩ := x2.2.cells
  obtain ⟨g0, g1, g2, g3⟩ := x2.2.free
  have XE := Lib.hid (x2.set g)
  clear x2
  go_wp2_with fail
  exact bodyPost_ret (v := fV g) (by simp [results, Try.results64, go_sem, e0, e1, e2, e3]) rfl ⟨rfl, XE.out.1.1⟩

set_option maxRecDepth 100000 in
set_option maxHeartbeats 2000000 in
theorem fp_made_apart (op off : Int) (wide : Bool) (x y : Fc) (w : World)
    (g : Fc) (A : Hid (∀ w, Calls Try.prog 94 #[.int .u8 op, fV x, fV y] w (Gives (fV g) w)))
    (F : Hid (∀ w, Calls Try.prog 93 #[.int .u8 op, .int .i16 off, fV x, fV y] w (Gives (.int .u8 6) w))) :
    Calls Try.prog 64 #[.int .u8 op, .bool wide, .int .i16 off, fV x, fV y] w (Gives (fV g) w) := by
  have hx := Lib.hid (FTri.new x y fZ w)
  go_enter Try.func64, Try.ntmps64
  go_wp2_with fail
  refine (F.out _).mono ?_; rintro e w1 ⟨rfl, b1⟩
  have x1 := hx.out.after b1
  clear hx b1
  obtain ⟨p0, p1, p2, p3⟩ := x1.1.2.1.cells
  obtain ⟨q0, q1, q2, q3⟩ := x1.1.2.2.cells
  go_wp2_with fail
  refine (A.out _).mono ?_; rintro e w2 ⟨rfl, b2⟩
  have x2 := x1.after b2
  clear x1 b2 p0 p1 p2 p3 q0 q1 q2 q3
  obtain ⟨e0, e1, e2, e3⟩ := x2.2.cells
  obtain ⟨g0, g1, g2, g3⟩ := x2.2.free
  have XE := Lib.hid (x2.set g)
  clear x2
  go_wp2_with fail
  exact bodyPost_ret (v := fV g) (by simp [results, Try.results64, go_sem, e0, e1, e2, e3]) rfl ⟨rfl, XE.out.1.1⟩

set_option maxRecDepth 100000 in
set_option maxHeartbeats 2000000 in
theorem fp_made_counted (op off : Int) (wide : Bool) (x y : Fc) (w : World)
    (g : Fc) (v er : Int) (D : Hid (∀ w, Calls Try.prog 63 #[.int .u8 op, .bool wide, .int .i16 off, uV x.1.1, uV y.1.1] w (Gives (.tuple #[.int .u64 v, .int .i64 er]) w)))
    (A : Hid (∀ w, Calls Try.prog 19 #[.int .u64 v] w (Gives (fV g) w)))
    (F : Hid (∀ w, Calls Try.prog 93 #[.int .u8 op, .int .i16 off, fV x, fV y] w (Gives (.int .u8 1) w))) :
    Calls Try.prog 64 #[.int .u8 op, .bool wide, .int .i16 off, fV x, fV y] w (Gives (fV g) w) := by
  have hx := Lib.hid (FTri.new x y fZ w)
  go_enter Try.func64, Try.ntmps64
  go_wp2_with fail
  refine (F.out _).mono ?_; rintro e w1 ⟨rfl, b1⟩
  have x1 := hx.out.after b1
  clear hx b1
  obtain ⟨p0, p1, p2, p3⟩ := x1.1.2.1.cells
  obtain ⟨q0, q1, q2, q3⟩ := x1.1.2.2.cells
  go_wp2_with fail
  refine (D.out _).mono ?_; rintro e w2 ⟨rfl, b2⟩
  have x2 := x1.after b2
  clear x1 b2 p0 p1 p2 p3 q0 q1 q2 q3
  go_wp2_with fail
  refine (A.out _).mono ?_; rintro e w3 ⟨rfl, b3⟩
  have x3 := x2.after b3
  clear x2 b3
  obtain ⟨e0, e1, e2, e3⟩ := x3.2.cells
  obtain ⟨g0, g1, g2, g3⟩ := x3.2.free
  have XE := Lib.hid (x3.set g)
  clear x3
  go_wp2_with fail
  exact bodyPost_ret (v := fV g) (by simp [results, Try.results64, go_sem, e0, e1, e2, e3]) rfl ⟨rfl, XE.out.1.1⟩

set_option maxRecDepth 100000 in
set_option maxHeartbeats 2000000 in
theorem fp_made_moved_wide (op off : Int) (x y : Fc) (w : World)
    (g z : Fc) (q : BitVec 64) (E : ((y.1.1.toNat : Int)).tmod 64 = (q.toNat : Int)) (O : Hid (∀ w, Calls Try.prog 19 #[uV q] w (Gives (fV z) w)))
    (A : Hid (∀ w, Calls Try.prog 94 #[.int .u8 op, fV x, fV z] w (Gives (fV g) w)))
    (F : Hid (∀ w, Calls Try.prog 93 #[.int .u8 op, .int .i16 off, fV x, fV y] w (Gives (.int .u8 5) w))) :
    Calls Try.prog 64 #[.int .u8 op, .bool true, .int .i16 off, fV x, fV y] w (Gives (fV g) w) := by
  have hx := Lib.hid (FTri.new x y fZ w)
  go_enter Try.func64, Try.ntmps64
  go_wp2_with fail
  refine (F.out _).mono ?_; rintro e w1 ⟨rfl, b1⟩
  have x1 := hx.out.after b1
  clear hx b1
  have X2 := Lib.hid x1
  obtain ⟨p0, p1, p2, p3⟩ := x1.1.2.1.cells
  obtain ⟨q0, q1, q2, q3⟩ := x1.1.2.2.cells
  clear x1
  go_wp2_with fail
  clear p0 p1 p2 p3 q0 q1 q2 q3
  have HB : Below w1.heap.size w1 w1.drew := Below.drew (Below.refl _ _)
  have HC := Lib.hid (fun (wx : World) (hx : Below w1.heap.size w1 wx) => And.intro (X2.out.after hx).1.2.1.cells (X2.out.after hx).1.2.2.cells)
  have HF := Lib.hid (fun (wx : World) (hx : Below w1.heap.size w1 wx) => And.intro (X2.out.after hx).2.cells (X2.out.after hx).2.free)
  obtain ⟨⟨p0, p1, p2, p3⟩, q0, q1, q2, q3⟩ := HC.out _ HB
  obtain ⟨⟨e0, e1, e2, e3⟩, g0, g1, g2, g3⟩ := HF.out _ HB
  go_region_with (first
    | (go_at_call 19; refine (O.out _).mono ?_; rintro e w6 ⟨rfl, hb6⟩; replace HB := below_next' HB hb6; clear hb6 p0 p1 p2 p3 q0 q1 q2 q3 e0 e1 e2 e3 g0 g1 g2 g3; obtain ⟨⟨p0, p1, p2, p3⟩, q0, q1, q2, q3⟩ := HC.out _ HB; obtain ⟨⟨e0, e1, e2, e3⟩, g0, g1, g2, g3⟩ := HF.out _ HB)
    | (go_at_call 94; refine (A.out _).mono ?_; rintro e w7 ⟨rfl, hb7⟩; replace HB := below_next' HB hb7; clear hb7 p0 p1 p2 p3 q0 q1 q2 q3 e0 e1 e2 e3 g0 g1 g2 g3; obtain ⟨⟨p0, p1, p2, p3⟩, q0, q1, q2, q3⟩ := HC.out _ HB; obtain ⟨⟨e0, e1, e2, e3⟩, g0, g1, g2, g3⟩ := HF.out _ HB))
  all_goals
    clear p0 p1 p2 p3 q0 q1 q2 q3
    have XE := Lib.hid ((X2.out.after HB).set g)
    clear X2 HC HF HB
    go_wp2_with fail
    exact bodyPost_ret (v := fV g) (by simp [results, Try.results64, go_sem, e0, e1, e2, e3]) rfl ⟨rfl, XE.out.1.1⟩

set_option maxRecDepth 100000 in
set_option maxHeartbeats 2000000 in
theorem fp_made_moved_narrow (op off : Int) (x y : Fc) (w : World)
    (g z : Fc) (q : BitVec 64) (E : ((y.1.1.toNat : Int)).tmod 32 = (q.toNat : Int)) (O : Hid (∀ w, Calls Try.prog 19 #[uV q] w (Gives (fV z) w)))
    (A : Hid (∀ w, Calls Try.prog 94 #[.int .u8 op, fV x, fV z] w (Gives (fV g) w)))
    (F : Hid (∀ w, Calls Try.prog 93 #[.int .u8 op, .int .i16 off, fV x, fV y] w (Gives (.int .u8 5) w))) :
    Calls Try.prog 64 #[.int .u8 op, .bool false, .int .i16 off, fV x, fV y] w (Gives (fV g) w) := by
  have hx := Lib.hid (FTri.new x y fZ w)
  go_enter Try.func64, Try.ntmps64
  go_wp2_with fail
  refine (F.out _).mono ?_; rintro e w1 ⟨rfl, b1⟩
  have x1 := hx.out.after b1
  clear hx b1
  have X2 := Lib.hid x1
  obtain ⟨p0, p1, p2, p3⟩ := x1.1.2.1.cells
  obtain ⟨q0, q1, q2, q3⟩ := x1.1.2.2.cells
  clear x1
  go_wp2_with fail
  clear p0 p1 p2 p3 q0 q1 q2 q3
  have HB : Below w1.heap.size w1 w1.drew := Below.drew (Below.refl _ _)
  have HC := Lib.hid (fun (wx : World) (hx : Below w1.heap.size w1 wx) => And.intro (X2.out.after hx).1.2.1.cells (X2.out.after hx).1.2.2.cells)
  have HF := Lib.hid (fun (wx : World) (hx : Below w1.heap.size w1 wx) => And.intro (X2.out.after hx).2.cells (X2.out.after hx).2.free)
  obtain ⟨⟨p0, p1, p2, p3⟩, q0, q1, q2, q3⟩ := HC.out _ HB
  obtain ⟨⟨e0, e1, e2, e3⟩, g0, g1, g2, g3⟩ := HF.out _ HB
  go_region_with (first
    | (go_at_call 19; refine (O.out _).mono ?_; rintro e w6 ⟨rfl, hb6⟩; replace HB := below_next' HB hb6; clear hb6 p0 p1 p2 p3 q0 q1 q2 q3 e0 e1 e2 e3 g0 g1 g2 g3; obtain ⟨⟨p0, p1, p2, p3⟩, q0, q1, q2, q3⟩ := HC.out _ HB; obtain ⟨⟨e0, e1, e2, e3⟩, g0, g1, g2, g3⟩ := HF.out _ HB)
    | (go_at_call 94; refine (A.out _).mono ?_; rintro e w7 ⟨rfl, hb7⟩; replace HB := below_next' HB hb7; clear hb7 p0 p1 p2 p3 q0 q1 q2 q3 e0 e1 e2 e3 g0 g1 g2 g3; obtain ⟨⟨p0, p1, p2, p3⟩, q0, q1, q2, q3⟩ := HC.out _ HB; obtain ⟨⟨e0, e1, e2, e3⟩, g0, g1, g2, g3⟩ := HF.out _ HB))
  all_goals
    clear p0 p1 p2 p3 q0 q1 q2 q3
    have XE := Lib.hid ((X2.out.after HB).set g)
    clear X2 HC HF HB
    go_wp2_with fail
    exact bodyPost_ret (v := fV g) (by simp [results, Try.results64, go_sem, e0, e1, e2, e3]) rfl ⟨rfl, XE.out.1.1⟩

end Go.Proofs.Ytfepokiibdkoeaa


/-
  Plain numbers: what is settled, known, cut, made stays in its kind. No program is named here.
-/
namespace Go.Proofs.Ytfepokiibdkoeaa
open Go Go.RowKit
set_option linter.unusedVariables false

theorem both_zero (x y : BitVec 64) : (x ||| y == 0#64) = (x == 0#64 && y == 0#64) := by
  rw [Bool.eq_iff_iff, Bool.and_eq_true, beq_iff_eq, beq_iff_eq, beq_iff_eq]
  constructor
  · intro h
    constructor
    · rw [bv_ext]
      intro i hi
      have h1 := congrArg (fun z : BitVec 64 => z.getLsbD i) h
      simp only [BitVec.getLsbD_or, zero_bit] at h1
      rw [zero_bit]
      revert h1
      cases x.getLsbD i <;> simp
    · rw [bv_ext]
      intro i hi
      have h1 := congrArg (fun z : BitVec 64 => z.getLsbD i) h
      simp only [BitVec.getLsbD_or, zero_bit] at h1
      rw [zero_bit]
      revert h1
      cases x.getLsbD i <;> cases y.getLsbD i <;> simp
  · rintro ⟨rfl, rfl⟩
    rfl
theorem fK_fix {f : Fc} (h : fFix f) : fK f = (f.1.2 == 0#64) := by
  unfold fK
  rw [fR_iff.mpr h, Bool.true_and]
theorem fKv_of {f : Fc} (h : fK f = true) : fKv f = f.1.1 := by unfold fKv; rw [if_pos h]
theorem fK_fOf (n : BitVec 64) : fK (fOf n) = true := fK_iff.mpr ⟨fOf_fix n, rfl⟩

theorem fZ_of : fZ = fOf 0#64 := rfl
theorem fSd_fix (f : Fc) : fFix (fSd f) := by
  unfold fSd
  cases h : fS f with
  | none => exact fOf_fix 0#64
  | some g => exact fS_fix h
theorem fSd_in {f : Fc} (hf : fIn f) : fIn (fSd f) := by
  unfold fSd
  cases h : fS f with
  | none => exact fOf_in 0#64
  | some g => exact fS_in hf h
theorem fC_fix (f : Fc) : fFix (fC f) := by
  unfold fC
  split
  · exact fSd_fix _
  · exact fOf_fix 0#64
theorem fC_in {f : Fc} (hf : fIn f) : fIn (fC f) := by
  unfold fC
  split
  · exact fSd_in (f := (tC f.1 32, fCs f.2)) (fCs_in hf)
  · exact fOf_in 0#64
theorem fA_in {op : Int} {x y : Fc} (hx : fIn x) (hy : fIn y) : fIn (fA op x y) := fSd_in (f := (fT op x.1 y.1, sDo op x.2 y.2)) (sDo_in hx hy)
theorem fW_in {op off : Int} {narrow : Bool} {x y : Fc} (hx : fIn x) (hy : fIn y) : fIn (fW op narrow off x y) := by
  unfold fW
  split
  · exact fOf_in _
  split
  · exact hy
  split
  · split
    · exact fOf_in _
    · exact hx
  split
  · split
    · exact fA_in hx (fOf_in _)
    · exact fAny_in
  split
  · exact fA_in hx hy
  · exact fAny_in
theorem condV_fits {op a b : Int} {wide : Bool} (h : condV op wide a b = true) : condE op = 0 := by
  unfold condE
  cases hc : condFits op
  · rw [condV_none hc] at h
    cases h
  · rfl
theorem fK_both {a b : Fc} (ha : fFix a) (hb : fFix b) : (a.1.2 ||| b.1.2 == 0#64) = (fK a && fK b) := by rw [both_zero, fK_fix ha, fK_fix hb]

end Go.Proofs.Ytfepokiibdkoeaa


/-
  The program's fact: what is known of what arithmetic makes, ahead of the cut: all its ways.
  Conditions: the numbers fit their kinds; the facts are settled; there is such arithmetic.
-/
namespace Go.Proofs.Ytfepokiibdkoeaa
open Go.RowKit
set_option linter.unusedVariables false

theorem fp_of_int (v : Int) (h : In64 v) (w : World) : Calls Try.prog 19 #[.int .u64 v] w (Gives (fV (fOf (BitVec.ofInt 64 v))) w) := by
  have h1 := fp_of (BitVec.ofInt 64 v) w
  have e : uV (BitVec.ofInt 64 v) = .int .u64 v := by
    show Value.int .u64 ((BitVec.ofInt 64 v).toNat : Int) = _
    rw [ofInt_nat h]
  rw [e] at h1
  exact h1

theorem fp_made (op off : Int) (wide : Bool) (x y : Fc) (w : World) (hx : fFix x) (hy : fFix y) (ix : fIn x) (iy : fIn y) (he : aluE wide op off = 0) :
    Calls Try.prog 64 #[.int .u8 op, .bool wide, .int .i16 off, fV x, fV y] w (Gives (fV (fW op (!wide) off x y)) w) := by
  have F := Lib.hid fun w => fp_found op off x y w iy
  have hf := aluE_fits.mp he
  have hb : (x.1.2 ||| y.1.2 == 0#64) = (fK x && fK y) := by rw [both_zero, fK_fix hx, fK_fix hy]
  have A := Lib.hid fp_any
  unfold fW
  cases hk : (fK x && fK y)
  · rw [hk] at hb
    rw [if_neg (by decide)]
    by_cases ho : off = 0
    · subst ho
      rw [fFo_else hb] at F
      by_cases o1 : op = 176
      · rw [if_pos ⟨o1, rfl⟩]
        rw [if_pos o1] at F
        exact fp_made_second op 0 wide x y w F
      rw [if_neg (fun h => o1 h.1)]
      rw [if_neg o1] at F
      by_cases o2 : op = 48 ∨ op = 144
      · rw [if_pos o2] at F
        unfold fDv at F
        by_cases hz : y = fOf 0#64
        · rw [if_pos hz] at F
          have k1 : fK y = true := by rw [hz]; exact fK_fOf _
          have k2 : fKv y = 0#64 := by rw [fKv_of k1, hz]; rfl
          rw [if_pos ⟨o2, rfl, k1, k2⟩]
          by_cases o3 : op = 48
          · rw [if_pos o3] at F ⊢
            exact fp_made_nought op 0 wide x y w _ (Lib.hid fun w => fp_of 0#64 w) F
          · rw [if_neg o3] at F ⊢
            exact fp_made_first op 0 wide x y w F
        · rw [if_neg hz] at F
          have hn : ¬ ((op = 48 ∨ op = 144) ∧ (0 : Int) = 0 ∧ fK y = true ∧ fKv y = 0#64) := by
            rintro ⟨_, _, k1, k2⟩
            apply hz
            have e := known_of hy iy (fK_iff.mp k1).2
            rw [fKv_of k1] at k2
            rw [k2] at e
            exact e
          rw [if_neg hn, if_neg (by omega), if_pos (by omega)]
          exact fp_made_apart op 0 wide x y w _ (Lib.hid fun w => fp_parts op x y w ix iy) F
      rw [if_neg o2] at F
      rw [if_neg (fun h => o2 h.1)]
      by_cases o4 : op = 96 ∨ op = 112
      · rw [if_pos o4] at F ⊢
        cases k : fK y
        · rw [k] at F
          rw [if_neg (by decide)]
          exact fp_made_untold op 0 wide x y w _ A F
        · rw [k] at F
          rw [if_pos rfl, fKv_of k]
          have P := Lib.hid fun w => fp_parts op x (fOf (fShK (!wide) y.1.1)) w ix (fOf_in _)
          have O := Lib.hid (fp_of (fShK (!wide) y.1.1))
          have E := fShK_nat (!wide) y.1.1
          cases wide
          · refine fp_made_moved_narrow op 0 x y w _ _ _ ?_ O P F
            rw [Int.tmod_eq_emod_of_nonneg (by omega)]
            exact E.symm
          · refine fp_made_moved_wide op 0 x y w _ _ _ ?_ O P F
            rw [Int.tmod_eq_emod_of_nonneg (by omega)]
            exact E.symm
      rw [if_neg o4] at F ⊢
      by_cases o5 : op = 0 ∨ op = 16 ∨ op = 32 ∨ op = 80 ∨ op = 64 ∨ op = 160
      · rw [if_pos o5] at F
        rw [if_pos (by omega)]
        exact fp_made_apart op 0 wide x y w _ (Lib.hid fun w => fp_parts op x y w ix iy) F
      · rw [if_neg o5] at F
        rw [if_neg (by omega)]
        exact fp_made_untold op 0 wide x y w _ A F
    · rw [fFo_off hb ho] at F
      have hops := fits_ops hf
      rw [if_neg (by omega), if_neg (by omega), if_neg (by omega), if_neg (by omega)]
      exact fp_made_untold op off wide x y w _ A F
  · rw [hk] at hb
    obtain ⟨k1, k2⟩ := Bool.and_eq_true_iff.mp hk
    rw [fFo_counted hb] at F
    rw [if_pos rfl, fKv_of k1, fKv_of k2, Bool.not_not]
    exact fp_made_counted op off wide x y w _ (aluV wide op off (x.1.1.toNat : Int) (y.1.1.toNat : Int)) (aluE wide op off)
      (Lib.hid fun w => (did_any op off _ _ wide w (bv_rng x.1.1).1 (bv_rng y.1.1).1).mono (by
        rintro e w' ⟨rfl, n, rfl⟩
        exact ⟨rfl, below_drewN (Below.refl _ _) n⟩))
      (Lib.hid fun w => fp_of_int _ (aluV_range wide op off _ _) w) F

end Go.Proofs.Ytfepokiibdkoeaa


/-
  The program's fact: Cut.
  Conditions: the numbers fit their kinds.
-/
namespace Go.Proofs.Ytfepokiibdkoeaa
open Go.RowKit
set_option linter.unusedVariables false

theorem FDuo.setR {f t : Fc} {w u : World} (h : FDuo f t w u) (s : Sp) : FDuo (f.1, s) t w ((u.setCell ⟨w.heap.size, 2, none⟩ (.int .u64 s.1)).setCell ⟨w.heap.size, 3, none⟩ (.int .u64 s.2)) :=
  ⟨(h.1.setCell (p := ⟨w.heap.size, 2, none⟩) (Nat.le_refl _) _).setCell (p := ⟨w.heap.size, 3, none⟩) (Nat.le_refl _) _, Blk.set (Blk.set (show Blk _ _ _ _ from h.2.1) 2 (.int .u64 s.1)) 3 (.int .u64 s.2), (h.2.2.other _ (by omega)).other _ (by omega)⟩

set_option maxRecDepth 100000 in
set_option maxHeartbeats 4000000 in
theorem fp_cut_low (f : Fc) (t : Tn) (g : Fc) (k : Bool) (w : World)
    (R : Hid (∀ w, Calls Try.prog 17 #[fV f] w (Gives (.bool true) w)))
    (H : Hid (∀ w, Calls Try.prog 60 #[fV f] w (Gives (.bool true) w)))
    (K : Hid (∀ w, Calls Try.prog 61 #[tV f.1, .int .i64 32] w (Gives (tV t) w)))
    (S : Hid (∀ w, Calls Try.prog 12 #[fV (t, f.2)] w (Gives (fBV g k) w))) :
    Calls Try.prog 29 #[fV f] w (Gives (fV g) w) := by
  have hx := Lib.hid (FDuo.new f fZ w)
  go_enter Try.func29, Try.ntmps29
  go_wp2_with fail
  refine (R.out _).mono ?_; rintro e w1 ⟨rfl, b1⟩
  have x1 := hx.out.after b1
  obtain ⟨p0, p1, p2, p3⟩ := x1.2.1.cells
  clear hx b1
  go_wp2_with fail
  refine (H.out _).mono ?_; rintro e w2 ⟨rfl, b2⟩
  have X2 := Lib.hid (x1.after b2)
  clear x1 b2 p0 p1 p2 p3
  go_wp2_with fail
  have HB : Below w2.heap.size w2 w2.drew := Below.drew (Below.refl _ _)
  have HC := Lib.hid (fun (wx : World) (hx : Below w2.heap.size w2 wx) => And.intro (X2.out.after hx).2.1.cells (X2.out.after hx).2.1.free)
  have z1 := X2.out.2.1.lt
  obtain ⟨⟨p0, p1, p2, p3⟩, f0, f1, f2, f3⟩ := HC.out _ HB
  go_region_with (first
    | (go_at_call 61; refine (K.out _).mono ?_; rintro e w6 ⟨rfl, hb6⟩; replace HB := below_next' HB hb6; clear hb6 p0 p1 p2 p3 f0 f1 f2 f3; obtain ⟨⟨p0, p1, p2, p3⟩, f0, f1, f2, f3⟩ := HC.out _ HB)
    | (go_at_call 12; refine (S.out _).mono ?_; rintro e w7 ⟨rfl, hb7⟩; replace HB := below_next' HB hb7; clear hb7 p0 p1 p2 p3 f0 f1 f2 f3; obtain ⟨⟨p0, p1, p2, p3⟩, f0, f1, f2, f3⟩ := HC.out _ HB))
  all_goals
    have x7 := (X2.out.after HB).setA g
    obtain ⟨e0, e1, e2, e3⟩ := x7.2.2.cells
    obtain ⟨g0, g1, g2, g3⟩ := x7.2.2.free
    have c7 := x7.2.1.cells
    obtain ⟨u0, u1, u2, u3⟩ := c7
    have XE := Lib.hid (x7.set g)
    clear x7 X2 HC HB p0 p1 p2 p3 f0 f1 f2 f3
    generalize (World.setCell (World.setCell (World.setCell (World.setCell w7 ⟨w.heap.size, 0, none⟩ (uV g.1.1)) ⟨w.heap.size, 1, none⟩ (uV g.1.2)) ⟨w.heap.size, 2, none⟩ (.int .u64 g.2.1)) ⟨w.heap.size, 3, none⟩ (.int .u64 g.2.2)) = u at *
    go_wp2_with fail
    exact bodyPost_ret (v := fV g) (by simp [results, Try.results29, go_sem, e0, e1, e2, e3]) rfl ⟨rfl, XE.out.1⟩

set_option maxRecDepth 100000 in
set_option maxHeartbeats 4000000 in
theorem fp_cut_high (f : Fc) (t : Tn) (g : Fc) (k : Bool) (w : World)
    (R : Hid (∀ w, Calls Try.prog 17 #[fV f] w (Gives (.bool true) w)))
    (H : Hid (∀ w, Calls Try.prog 60 #[fV f] w (Gives (.bool false) w)))
    (K : Hid (∀ w, Calls Try.prog 61 #[tV f.1, .int .i64 32] w (Gives (tV t) w)))
    (S : Hid (∀ w, Calls Try.prog 12 #[fV (t, (0, 4294967295))] w (Gives (fBV g k) w))) :
    Calls Try.prog 29 #[fV f] w (Gives (fV g) w) := by
  have hx := Lib.hid (FDuo.new f fZ w)
  go_enter Try.func29, Try.ntmps29
  go_wp2_with fail
  refine (R.out _).mono ?_; rintro e w1 ⟨rfl, b1⟩
  have x1 := hx.out.after b1
  obtain ⟨p0, p1, p2, p3⟩ := x1.2.1.cells
  clear hx b1
  go_wp2_with fail
  refine (H.out _).mono ?_; rintro e w3 ⟨rfl, b3⟩
  have x3 := x1.after b3
  clear p0 p1 p2 p3
  obtain ⟨p0, p1, p2, p3⟩ := x3.2.1.cells
  obtain ⟨f0, f1, f2, f3⟩ := x3.2.1.free
  have X2 := Lib.hid (x3.setR (0, 4294967295))
  clear x1 b3 x3
  go_wp2_with fail
  clear p0 p1 p2 p3 f0 f1 f2 f3
  generalize (World.setCell (World.setCell w3 ⟨w.heap.size, 2, none⟩ (.int .u64 0)) ⟨w.heap.size, 3, none⟩ (.int .u64 4294967295)) = w2 at *
  have HB : Below w2.heap.size w2 w2.drew := Below.drew (Below.refl _ _)
  have HC := Lib.hid (fun (wx : World) (hx : Below w2.heap.size w2 wx) => And.intro (X2.out.after hx).2.1.cells (X2.out.after hx).2.1.free)
  have z1 := X2.out.2.1.lt
  obtain ⟨⟨p0, p1, p2, p3⟩, f0, f1, f2, f3⟩ := HC.out _ HB
  go_region_with (first
    | (go_at_call 61; refine (K.out _).mono ?_; rintro e w6 ⟨rfl, hb6⟩; replace HB := below_next' HB hb6; clear hb6 p0 p1 p2 p3 f0 f1 f2 f3; obtain ⟨⟨p0, p1, p2, p3⟩, f0, f1, f2, f3⟩ := HC.out _ HB)
    | (go_at_call 12; refine (S.out _).mono ?_; rintro e w7 ⟨rfl, hb7⟩; replace HB := below_next' HB hb7; clear hb7 p0 p1 p2 p3 f0 f1 f2 f3; obtain ⟨⟨p0, p1, p2, p3⟩, f0, f1, f2, f3⟩ := HC.out _ HB))
  all_goals
    have x7 := (X2.out.after HB).setA g
    obtain ⟨e0, e1, e2, e3⟩ := x7.2.2.cells
    obtain ⟨g0, g1, g2, g3⟩ := x7.2.2.free
    have c7 := x7.2.1.cells
    obtain ⟨u0, u1, u2, u3⟩ := c7
    have XE := Lib.hid (x7.set g)
    clear x7 X2 HC HB p0 p1 p2 p3 f0 f1 f2 f3
    generalize (World.setCell (World.setCell (World.setCell (World.setCell w7 ⟨w.heap.size, 0, none⟩ (uV g.1.1)) ⟨w.heap.size, 1, none⟩ (uV g.1.2)) ⟨w.heap.size, 2, none⟩ (.int .u64 g.2.1)) ⟨w.heap.size, 3, none⟩ (.int .u64 g.2.2)) = u at *
    go_wp2_with fail
    exact bodyPost_ret (v := fV g) (by simp [results, Try.results29, go_sem, e0, e1, e2, e3]) rfl ⟨rfl, XE.out.1⟩

theorem fp_cut (f : Fc) (w : World) (hf : fIn f) : Calls Try.prog 29 #[fV f] w (Gives (fV (fC f)) w) := by
  have R := Lib.hid fun w => fp_right f w hf
  have H := Lib.hid fun w => fp_short f w
  have K := Lib.hid (cut_says f.1 32)
  have S := Lib.hid fun w => fp_settle (tC f.1 32, fCs f.2) w (fCs_in hf)
  unfold fC
  cases h : fR f
  · rw [h] at R
    have hx := Lib.hid (FDuo.new f fZ w)
    clear S K H h
    show Calls _ _ _ _ (Gives (fV fZ) w)
    go_enter Try.func29, Try.ntmps29
    go_wp2_with fail
    refine (R.out _).mono ?_; rintro e w1 ⟨rfl, b1⟩
    have x1 := hx.out.after b1
    obtain ⟨e0, e1, e2, e3⟩ := x1.2.2.cells
    obtain ⟨g0, g1, g2, g3⟩ := x1.2.2.free
    have XE := Lib.hid (x1.set fZ)
    clear x1 hx b1
    go_wp2_with fail
    exact bodyPost_ret (v := fV fZ) (by simp [results, Try.results29, go_sem, e0, e1, e2, e3, fZ]) rfl ⟨rfl, XE.out.1⟩
  · rw [h] at R
    by_cases hh : 4294967296 ≤ f.2.2
    · have e : fCs f.2 = (0, 4294967295) := if_pos hh
      rw [decide_eq_false (by omega)] at H
      rw [e] at S ⊢
      exact fp_cut_high f _ _ _ w R H K S
    · have e : fCs f.2 = f.2 := if_neg hh
      rw [decide_eq_true (by omega)] at H
      rw [e] at S ⊢
      exact fp_cut_low f _ _ _ w R H K S

end Go.Proofs.Ytfepokiibdkoeaa


/-
  The program's fact: what is known of what arithmetic makes.
  Conditions: the numbers fit their kinds.
-/
namespace Go.Proofs.Ytfepokiibdkoeaa
open Go.RowKit
set_option linter.unusedVariables false

theorem below_did {op off v k : Int} {wide : Bool} {a b : Int} {w : World} (h : Calls Try.prog 63 #[.int .u8 op, .bool wide, .int .i16 off, .int .u64 a, .int .u64 b] w (Did v k w)) :
    Calls Try.prog 63 #[.int .u8 op, .bool wide, .int .i16 off, .int .u64 a, .int .u64 b] w (Gives (.tuple #[.int .u64 v, .int .i64 k]) w) := h.mono (by
  rintro e w' ⟨rfl, n, rfl⟩
  exact ⟨rfl, below_drewN (Below.refl _ _) n⟩)

/-- A fact's value and a number, as what two answers are. -/
abbrev fEV (f : Fc) (e : Int) : Value := .tuple #[fV f, .int .i64 e]

set_option maxRecDepth 100000 in
set_option maxHeartbeats 4000000 in
theorem fp_do_err (op off : Int) (wide : Bool) (a b : Fc) (v : Int) (w : World)
    (k : Int) (hk : (k != 0) = true) (D : Hid (∀ w, Calls Try.prog 63 #[.int .u8 op, .bool wide, .int .i16 off, .int .u64 0, .int .u64 0] w (Gives (.tuple #[.int .u64 v, .int .i64 k]) w))) :
    Calls Try.prog 31 #[.int .u8 op, .bool wide, .int .i16 off, fV a, fV b] w (Gives (fEV fZ 1) w) := by
  have hx := Lib.hid (FTri.new a b fZ w)
  go_enter Try.func31, Try.ntmps31
  go_wp2_with fail
  refine (D.out _).mono ?_; rintro e w1 ⟨rfl, b1⟩
  have x1 := hx.out.after b1
  clear hx b1
  obtain ⟨e0, e1, e2, e3⟩ := x1.2.cells
  obtain ⟨g0, g1, g2, g3⟩ := x1.2.free
  have XE := Lib.hid (x1.set fZ)
  clear x1
  go_wp2_with fail
  exact bodyPost_ret (v := fEV fZ 1) (by simp [results, Try.results31, go_sem, e0, e1, e2, e3, fZ]) rfl ⟨rfl, XE.out.1.1⟩

set_option maxRecDepth 100000 in
set_option maxHeartbeats 4000000 in
theorem fp_do_not (op off : Int) (wide : Bool) (a b : Fc) (v : Int) (w : World)
    (D : Hid (∀ w, Calls Try.prog 63 #[.int .u8 op, .bool wide, .int .i16 off, .int .u64 0, .int .u64 0] w (Gives (.tuple #[.int .u64 v, .int .i64 0]) w)))
    (R : Hid (∀ w, Calls Try.prog 53 #[fV a, fV b] w (Gives (.bool false) w))) :
    Calls Try.prog 31 #[.int .u8 op, .bool wide, .int .i16 off, fV a, fV b] w (Gives (fEV fZ 1) w) := by
  have hx := Lib.hid (FTri.new a b fZ w)
  go_enter Try.func31, Try.ntmps31
  go_wp2_with fail
  refine (D.out _).mono ?_; rintro e w1 ⟨rfl, b1⟩
  have x1 := hx.out.after b1
  clear hx b1
  obtain ⟨p0, p1, p2, p3⟩ := x1.1.2.1.cells
  obtain ⟨q0, q1, q2, q3⟩ := x1.1.2.2.cells
  go_wp2_with fail
  refine (R.out _).mono ?_; rintro e w2 ⟨rfl, b2⟩
  have x2 := x1.after b2
  clear x1 b2 p0 p1 p2 p3 q0 q1 q2 q3
  obtain ⟨e0, e1, e2, e3⟩ := x2.2.cells
  obtain ⟨g0, g1, g2, g3⟩ := x2.2.free
  have XE := Lib.hid (x2.set fZ)
  clear x2
  go_wp2_with fail
  exact bodyPost_ret (v := fEV fZ 1) (by simp [results, Try.results31, go_sem, e0, e1, e2, e3, fZ]) rfl ⟨rfl, XE.out.1.1⟩

set_option maxRecDepth 100000 in
set_option maxHeartbeats 4000000 in
theorem fp_do_wide (op off : Int) (a b : Fc) (v : Int) (w : World)
    (D : Hid (∀ w, Calls Try.prog 63 #[.int .u8 op, .bool true, .int .i16 off, .int .u64 0, .int .u64 0] w (Gives (.tuple #[.int .u64 v, .int .i64 0]) w)))
    (R : Hid (∀ w, Calls Try.prog 53 #[fV a, fV b] w (Gives (.bool true) w)))
    (g : Fc) (M : Hid (∀ w, Calls Try.prog 64 #[.int .u8 op, .bool true, .int .i16 off, fV a, fV b] w (Gives (fV g) w))) :
    Calls Try.prog 31 #[.int .u8 op, .bool true, .int .i16 off, fV a, fV b] w (Gives (fEV g 0) w) := by
  have hx := Lib.hid (FTri.new a b fZ w)
  go_enter Try.func31, Try.ntmps31
  go_wp2_with fail
  refine (D.out _).mono ?_; rintro e w1 ⟨rfl, b1⟩
  have x1 := hx.out.after b1
  clear hx b1
  obtain ⟨p0, p1, p2, p3⟩ := x1.1.2.1.cells
  obtain ⟨q0, q1, q2, q3⟩ := x1.1.2.2.cells
  go_wp2_with fail
  refine (R.out _).mono ?_; rintro e w2 ⟨rfl, b2⟩
  have x2 := x1.after b2
  clear x1 b2 p0 p1 p2 p3 q0 q1 q2 q3
  obtain ⟨p0, p1, p2, p3⟩ := x2.1.2.1.cells
  obtain ⟨q0, q1, q2, q3⟩ := x2.1.2.2.cells
  go_wp2_with fail
  refine (M.out _).mono ?_; rintro e w3 ⟨rfl, b3⟩
  have x3 := x2.after b3
  clear x2 b3 p0 p1 p2 p3 q0 q1 q2 q3
  obtain ⟨e0, e1, e2, e3⟩ := x3.2.cells
  obtain ⟨g0, g1, g2, g3⟩ := x3.2.free
  have XE := Lib.hid (x3.set g)
  clear x3
  go_wp2_with fail
  exact bodyPost_ret (v := fEV g 0) (by simp [results, Try.results31, go_sem, e0, e1, e2, e3]) rfl ⟨rfl, XE.out.1.1⟩

set_option maxRecDepth 100000 in
set_option maxHeartbeats 4000000 in
theorem fp_do_narrow (op off : Int) (a b : Fc) (v : Int) (w : World)
    (D : Hid (∀ w, Calls Try.prog 63 #[.int .u8 op, .bool false, .int .i16 off, .int .u64 0, .int .u64 0] w (Gives (.tuple #[.int .u64 v, .int .i64 0]) w)))
    (R : Hid (∀ w, Calls Try.prog 53 #[fV a, fV b] w (Gives (.bool true) w)))
    (c d m g : Fc) (C1 : Hid (∀ w, Calls Try.prog 29 #[fV a] w (Gives (fV c) w)))
    (C2 : Hid (∀ w, Calls Try.prog 29 #[fV b] w (Gives (fV d) w)))
    (M : Hid (∀ w, Calls Try.prog 64 #[.int .u8 op, .bool false, .int .i16 off, fV c, fV d] w (Gives (fV m) w)))
    (C3 : Hid (∀ w, Calls Try.prog 29 #[fV m] w (Gives (fV g) w))) :
    Calls Try.prog 31 #[.int .u8 op, .bool false, .int .i16 off, fV a, fV b] w (Gives (fEV g 0) w) := by
  have hx := Lib.hid (FTri.new a b fZ w)
  go_enter Try.func31, Try.ntmps31
  go_wp2_with fail
  refine (D.out _).mono ?_; rintro e w1 ⟨rfl, b1⟩
  have x1 := hx.out.after b1
  clear hx b1
  obtain ⟨p0, p1, p2, p3⟩ := x1.1.2.1.cells
  obtain ⟨q0, q1, q2, q3⟩ := x1.1.2.2.cells
  go_wp2_with fail
  refine (R.out _).mono ?_; rintro e w2 ⟨rfl, b2⟩
  have X2 := Lib.hid (x1.after b2)
  clear x1 b2 p0 p1 p2 p3 q0 q1 q2 q3
  go_wp2_with fail
  have HB : Below w2.heap.size w2 w2.drew := Below.drew (Below.refl _ _)
  have HC := Lib.hid (fun (wx : World) (hx : Below w2.heap.size w2 wx) => And.intro (X2.out.after hx).1.2.1.cells (X2.out.after hx).1.2.2.cells)
  have HF := Lib.hid (fun (wx : World) (hx : Below w2.heap.size w2 wx) => And.intro (X2.out.after hx).2.cells (X2.out.after hx).2.free)
  obtain ⟨⟨p0, p1, p2, p3⟩, q0, q1, q2, q3⟩ := HC.out _ HB
  obtain ⟨⟨e0, e1, e2, e3⟩, g0, g1, g2, g3⟩ := HF.out _ HB
  go_region_with (first
    | (go_at_call 64; refine (M.out _).mono ?_; rintro e w6 ⟨rfl, hb⟩; replace HB := below_next' HB hb; clear M hb p0 p1 p2 p3 q0 q1 q2 q3 e0 e1 e2 e3 g0 g1 g2 g3; obtain ⟨⟨p0, p1, p2, p3⟩, q0, q1, q2, q3⟩ := HC.out _ HB; obtain ⟨⟨e0, e1, e2, e3⟩, g0, g1, g2, g3⟩ := HF.out _ HB)
    | (go_at_call 29; refine (C1.out _).mono ?_; rintro e w7 ⟨rfl, hb⟩; replace HB := below_next' HB hb; clear C1 hb p0 p1 p2 p3 q0 q1 q2 q3 e0 e1 e2 e3 g0 g1 g2 g3; obtain ⟨⟨p0, p1, p2, p3⟩, q0, q1, q2, q3⟩ := HC.out _ HB; obtain ⟨⟨e0, e1, e2, e3⟩, g0, g1, g2, g3⟩ := HF.out _ HB)
    | (go_at_call 29; refine (C2.out _).mono ?_; rintro e w8 ⟨rfl, hb⟩; replace HB := below_next' HB hb; clear C2 hb p0 p1 p2 p3 q0 q1 q2 q3 e0 e1 e2 e3 g0 g1 g2 g3; obtain ⟨⟨p0, p1, p2, p3⟩, q0, q1, q2, q3⟩ := HC.out _ HB; obtain ⟨⟨e0, e1, e2, e3⟩, g0, g1, g2, g3⟩ := HF.out _ HB)
    | (go_at_call 29; refine (C3.out _).mono ?_; rintro e w9 ⟨rfl, hb⟩; replace HB := below_next' HB hb; clear C3 hb p0 p1 p2 p3 q0 q1 q2 q3 e0 e1 e2 e3 g0 g1 g2 g3; obtain ⟨⟨p0, p1, p2, p3⟩, q0, q1, q2, q3⟩ := HC.out _ HB; obtain ⟨⟨e0, e1, e2, e3⟩, g0, g1, g2, g3⟩ := HF.out _ HB))
  all_goals
    clear p0 p1 p2 p3 q0 q1 q2 q3
    have XE := Lib.hid ((X2.out.after HB).set g)
    clear X2 HC HF HB
    go_wp2_with fail
    exact bodyPost_ret (v := fEV g 0) (by simp [results, Try.results31, go_sem, e0, e1, e2, e3]) rfl ⟨rfl, XE.out.1.1⟩

theorem fp_do (op off : Int) (wide : Bool) (a b : Fc) (w : World) (ha : fIn a) (hb : fIn b) :
    Calls Try.prog 31 #[.int .u8 op, .bool wide, .int .i16 off, fV a, fV b] w (Gives (fEV (fDo op wide off a b) (fDe op wide off a b)) w) := by
  have D := Lib.hid fun w => below_did (did_any op off 0 0 wide w (by decide) (by decide))
  have R := Lib.hid fun w => fp_both a b w ha hb
  unfold fDo fDe
  by_cases he : aluE wide op off = 0
  · rw [he] at D
    cases hr : (fR a && fR b)
    · rw [hr] at R
      have hn : ¬ (aluE wide op off = 0 ∧ fR a = true ∧ fR b = true) := fun h => by rw [h.2.1, h.2.2] at hr; cases hr
      rw [if_neg hn, if_neg hn]
      exact fp_do_not op off wide a b _ w D R
    · rw [hr] at R
      obtain ⟨r1, r2⟩ := Bool.and_eq_true_iff.mp hr
      have hc : aluE wide op off = 0 ∧ fR a = true ∧ fR b = true := ⟨he, r1, r2⟩
      rw [if_pos hc, if_pos hc]
      clear hc
      cases wide
      · rw [if_neg (by decide)]
        exact fp_do_narrow op off a b _ w D R _ _ _ _ (Lib.hid fun w => fp_cut a w ha) (Lib.hid fun w => fp_cut b w hb)
          (Lib.hid fun w => fp_made op off false (fC a) (fC b) w (fC_fix a) (fC_fix b) (fC_in ha) (fC_in hb) he)
          (Lib.hid fun w => fp_cut _ w (fW_in (fC_in ha) (fC_in hb)))
      · rw [if_pos rfl]
        exact fp_do_wide op off a b _ w D R _ (Lib.hid fun w => fp_made op off true a b w (fR_iff.mp r1) (fR_iff.mp r2) ha hb he)
  · have hn : ¬ (aluE wide op off = 0 ∧ fR a = true ∧ fR b = true) := fun h => he h.1
    rw [if_neg hn, if_neg hn]
    exact fp_do_err op off wide a b _ w _ (bne_iff_ne.mpr he) D

end Go.Proofs.Ytfepokiibdkoeaa


/-
  The document's examples of layer 6, as the statements' head holds them: 'shown' answers true.
  Conditions: none.
-/
namespace Go.Proofs.Ytfepokiibdkoeaa
open Go.RowKit
set_option linter.unusedVariables false

theorem ex_settle : fS ((0#64, 7#64), (3, 100)) = some ((0#64, 7#64), (3, 7)) := by decide +kernel
theorem ex_do : fDo 80 true 0 fAny (fOf 12#64) = ((0#64, 12#64), (0, 12)) ∧ fDe 80 true 0 fAny (fOf 12#64) = 0 := by decide +kernel

set_option maxRecDepth 100000 in
set_option maxHeartbeats 2000000 in
theorem fact_shown (w : World) : Calls Try.prog 16 #[] w (Fine w) := by
  have s1 : ∀ w, Calls Try.prog 12 #[.agg #[.int .u64 0, .int .u64 7, .int .u64 3, .int .u64 100]] w (Gives (.tuple #[.agg #[.int .u64 0, .int .u64 7, .int .u64 3, .int .u64 7], .bool true]) w) := fun w => by
    have h := fp_settle ((0#64, 7#64), (3, 100)) w (by unfold fIn sIn In64; decide)
    rw [ex_settle] at h
    exact h
  have s2 : ∀ w, Calls Try.prog 21 #[] w (Gives (fV fAny) w) := fp_any
  have s3 : ∀ w, Calls Try.prog 19 #[.int .u64 12] w (Gives (fV (fOf 12#64)) w) := fun w => fp_of 12#64 w
  have s4 : ∀ w, Calls Try.prog 31 #[.int .u8 80, .bool true, .int .i16 0, fV fAny, fV (fOf 12#64)] w (Gives (.tuple #[.agg #[.int .u64 0, .int .u64 12, .int .u64 0, .int .u64 12], .int .i64 0]) w) := fun w => by
    have h := fp_do 80 0 true fAny (fOf 12#64) w fAny_in (fOf_in _)
    rw [ex_do.1, ex_do.2] at h
    exact h
  generalize fAny = u at *
  generalize fOf 12#64 = v at *
  have S1 := Lib.hid s1
  have S2 := Lib.hid s2
  have S3 := Lib.hid s3
  have S4 := Lib.hid s4
  clear s1 s2 s3 s4
  go_enter Try.func16, Try.ntmps16
  go_wp2_with fail
  refine (S1.out _).mono ?_; rintro e w1 ⟨rfl, b1⟩
  have A0 := Lib.hid (Blk.new w1 #[.int .u64 0, .int .u64 7, .int .u64 3, .int .u64 7] 28 (g := w1.heap.size) rfl)
  go_wp2_with fail
  refine (S2.out _).mono ?_; rintro e w2 ⟨rfl, b2⟩
  have A2 := A0.out.after b2
  have bb := below_next' (below_alloc b1 _) b2
  clear b1 b2 A0
  go_wp2_with fail
  refine (S3.out _).mono ?_; rintro e w3 ⟨rfl, b3⟩
  have A3 := A2.after b3
  have bc := below_next' bb b3
  clear A2 b3 bb
  go_wp2_with fail
  refine (S4.out _).mono ?_; rintro e w4 ⟨rfl, b4⟩
  have A4 := A3.after b4
  have bd := below_next' bc b4
  clear A3 b4 bc
  generalize w1.heap.size = g at *
  have p0 : w4.cell? ⟨g, 0, none⟩ = some (.int .u64 0) := Blk.cell A4 0
  have p1 : w4.cell? ⟨g, 1, none⟩ = some (.int .u64 7) := Blk.cell A4 1
  have p2 : w4.cell? ⟨g, 2, none⟩ = some (.int .u64 3) := Blk.cell A4 2
  have p3 : w4.cell? ⟨g, 3, none⟩ = some (.int .u64 7) := Blk.cell A4 3
  have z1 := Blk.lt A4
  clear A4
  go_wp2_with fail
  go_ret
  exact ⟨rfl, below_alloc bd _⟩

end Go.Proofs.Ytfepokiibdkoeaa


/-
  Facts that a number may be, as the statements make them.
  Conditions: none.
-/
namespace Go.Proofs.Ytfepokiibdkoeaa
open Go.RowKit
set_option linter.unusedVariables false

/-- What the statements make of a number, of which bits of it are known, and of how far it may be from it. -/
def fMd (n k l m : BitVec 64) : Fc := ((n &&& k, ~~~k), ((n.toNat : Int) - min (n.toNat : Int) (l.toNat : Int), (n.toNat : Int) + min (18446744073709551615 - (n.toNat : Int)) (m.toNat : Int)))
def fMade (n k l m : BitVec 64) : Fc := fSd (fMd n k l m)
theorem fMd_in (n k l m : BitVec 64) : fIn (fMd n k l m) := by
  have h1 := bv_rng n
  have h2 := bv_rng l
  have h3 := bv_rng m
  unfold fIn sIn In64 fMd
  dsimp only
  omega
theorem fMd_RR (n k l m : BitVec 64) : fRR (fMd n k l m) = true := by
  have h1 := bv_rng n
  have h2 := bv_rng l
  have h3 := bv_rng m
  refine fRR_iff.mpr ⟨?_, ?_⟩
  · rw [tR_iff]
    intro i hi
    show ((n &&& k).getLsbD i && (~~~k).getLsbD i) = false
    rw [BitVec.getLsbD_and, BitVec.getLsbD_not]
    cases n.getLsbD i <;> cases k.getLsbD i <;> simp
  · refine decide_eq_true ?_
    unfold fMd
    dsimp only
    omega
theorem fMd_has (n k l m : BitVec 64) : fHas (fMd n k l m) n = true := by
  have h1 := bv_rng n
  have h2 := bv_rng l
  have h3 := bv_rng m
  refine fHas_iff.mpr ⟨?_, ?_⟩
  · rw [tH_iff]
    intro i hi
    show (n.getLsbD i && !(~~~k).getLsbD i) = (n &&& k).getLsbD i
    rw [BitVec.getLsbD_and, BitVec.getLsbD_not]
    simp [hi]
  · refine sH_iff.mpr ?_
    unfold fMd
    dsimp only
    omega
theorem fMade_good (n k l m : BitVec 64) : Good (fMade n k l m) n := by
  obtain ⟨h1, h2, h3, _⟩ := fSd_has (fMd_in n k l m) (fMd_RR n k l m) (fMd_has n k l m)
  exact ⟨h1, h2, h3⟩

theorem xor_max (k : BitVec 64) : bits .xor .u64 IntKind.u64.max (k.toNat : Int) = ((~~~k).toNat : Int) := by
  have e : (IntKind.u64.max : Int) = ((BitVec.allOnes 64).toNat : Int) := by decide
  rw [e, bv_xor]
  congr 2

set_option maxRecDepth 100000 in
set_option maxHeartbeats 2000000 in
theorem made_fact (n k l m : BitVec 64) (w : World) : Calls Try.prog 35 #[uV n, uV k, uV l, uV m] w (Gives (fV (fMade n k l m)) w) := by
  have S : Hid (∀ (A B : Int), A = (n.toNat : Int) - min (n.toNat : Int) (l.toNat : Int) → B = (n.toNat : Int) + min (18446744073709551615 - (n.toNat : Int)) (m.toNat : Int) → ∀ w,
      Calls Try.prog 13 #[.agg #[.int .u64 (bits .and .u64 (n.toNat : Int) (k.toNat : Int)), .int .u64 (bits .xor .u64 IntKind.u64.max (k.toNat : Int)), .int .u64 A, .int .u64 B]] w (Gives (fBV (fMade n k l m) (fS (fMd n k l m)).isSome) w)) := Lib.hid fun A B hA hB w => by
    rw [bv_and, xor_max, hA, hB]
    exact rf_settle (fMd n k l m) w (fMd_in n k l m)
  generalize fMade n k l m = g at *
  generalize (fS (fMd n k l m)).isSome = q at *
  have hx := Lib.hid (fB.new w fZ rfl)
  have X := Lib.hid (xor_max n)
  have hn : ((~~~n).toNat : Int) = 18446744073709551615 - (n.toNat : Int) := by
    rw [BitVec.toNat_not]
    have := bv_lt n
    omega
  have HN := Lib.hid hn
  have r1 := bv_rng n
  have r2 := bv_rng l
  have r3 := bv_rng m
  clear hn
  go_enter Try.func35, Try.ntmps35
  go_wp2_with fail
  all_goals
    refine (S.out _ _ ?hA ?hB _).mono ?_
    case hA => omega
    case hB =>
      have z := X.out.trans HN.out
      rw [IntKind.wrap_u64]
      omega
    rintro e w1 ⟨rfl, b1⟩
    have x1 := hx.out.after b1
    have k1 := x1.lt
    obtain ⟨c0, c1, c2, c3⟩ := x1.cells
    obtain ⟨f0, f1, f2, f3⟩ := x1.free
    have bw := below_next' (below_alloc (Below.refl w.heap.size w) (.cells (fCells fZ) 28)) b1
    have XE := Lib.hid (below_alloc (below_four bw (Nat.le_refl _) g) (.cells (fCells g) 28))
    clear x1 bw b1 hx
    go_wp2_with fail
    exact bodyPost_ret (v := fV g) (by simp [results, Try.results35, go_sem, c0, c1, c2, c3, k1]) rfl ⟨rfl, XE.out⟩

end Go.Proofs.Ytfepokiibdkoeaa


/-
  Arguments that are structs or arrays of integers and bools, opened cell by cell: whatever the nesting, each cell is a number of its kind, or a bool.
  Conditions: none; 'leafAt' computes of which kind a cell is.
-/
namespace Go.Proofs.Ytfepokiibdkoeaa
open Go.ChangeShapes Go.WideShapes Go.RowKit

/-- A cell's kind: a number's, or (none) a bool. -/
def LeafOk : Option IntKind → Value → Prop
  | some k, v => ∃ n, v = .int k n ∧ (Lit.int k n).wf = true
  | none, v => ∃ b, v = .bool b

/-- Cell j of a value of type t, looked for n deep. -/
def leafAt (P : Program) : Nat → TypeId → Nat → Option (Option IntKind)
  | 0, _, _ => none
  | n + 1, t, j =>
    match P.underlying t with
    | some (.int k) => if j = 0 then some (some k) else none
    | some .bool => if j = 0 then some none else none
    | some (.struct fs) => (fs.toList.find? fun f => decide (f.offset ≤ j ∧ j < f.offset + P.cellsOf f.type)).bind fun f => leafAt P n f.type (j - f.offset)
    | some (.array m e) => if P.cellsOf e = 0 then none else if j < m * P.cellsOf e then leafAt P n e (j % P.cellsOf e) else none
    | _ => none

section
variable {H : Type} {enc : TypeId × Value → H} {P : Program} {w : World} {base : Nat} {spare : Nat → Bool} {held : Bool}

theorem leaf_of_trod : ∀ (n fuel : Nat) (t : TypeId) (cs : List Value) (x : DataW H × List MemPlace) (j : Nat) (L : Option IntKind),
    DataW.trod enc P w base spare held fuel t cs = some x → leafAt P n t j = some L → ∃ v, cs[j]? = some v ∧ LeafOk L v := by
  intro n
  induction n with
  | zero => intro fuel t cs x j L _ hl; simp [leafAt] at hl
  | succ n ih =>
    intro fuel t cs x j L h hl
    unfold leafAt at hl
    split at hl
    · rename_i k hk
      obtain ⟨m, rfl, _, hw⟩ := DataW.trod_int hk h
      split at hl
      · rename_i hj
        subst hj
        cases hl
        exact ⟨_, rfl, m, rfl, hw⟩
      · cases hl
    · rename_i hk
      obtain ⟨b, rfl, _⟩ := DataW.trod_bool hk h
      split at hl
      · rename_i hj
        subst hj
        cases hl
        exact ⟨_, rfl, b, rfl⟩
      · cases hl
    · rename_i fs hk
      obtain ⟨xs, m, _, _, _, hlen, hf⟩ := DataW.trod_struct hk h
      obtain ⟨f, hfind, hrest⟩ := Option.bind_eq_some_iff.1 hl
      have hmem := List.mem_of_find?_eq_some hfind
      have hp := List.find?_some hfind
      simp only [decide_eq_true_eq] at hp
      obtain ⟨i, hi, hget⟩ := List.getElem_of_mem hmem
      have hif : fs[i]? = some f := by
        have : i < fs.size := by simpa using hi
        rw [Array.getElem?_eq_getElem this]
        simpa using hget
      have hx : xs[i]? = some (xs[i]'(by rw [hlen]; simpa using hi)) := List.getElem?_eq_getElem _
      have h1 := (hf i f hif).trans hx
      obtain ⟨v, hv, hok⟩ := ih _ _ _ _ _ _ h1 hrest
      refine ⟨v, ?_, hok⟩
      rw [List.getElem?_take, if_pos (by omega), List.getElem?_drop] at hv
      rw [← hv]
      congr 1
      omega
    · rename_i m e hk
      obtain ⟨xs, k, _, _, _, hlen, hf⟩ := DataW.trod_array hk h
      split at hl
      · cases hl
      · rename_i hne
        split at hl
        · rename_i hlt
          have hpos : 0 < P.cellsOf e := Nat.pos_of_ne_zero hne
          have hdm := Nat.div_add_mod j (P.cellsOf e)
          have hq : j / P.cellsOf e < m := (Nat.div_lt_iff_lt_mul hpos).2 hlt
          have hr := Nat.mod_lt j hpos
          have hx : xs[j / P.cellsOf e]? = some (xs[j / P.cellsOf e]'(by omega)) := List.getElem?_eq_getElem _
          have h1 := (hf _ hq).trans hx
          obtain ⟨v, hv, hok⟩ := ih _ _ _ _ _ _ h1 hl
          refine ⟨v, ?_, hok⟩
          rw [List.getElem?_take, if_pos hr, List.getElem?_drop] at hv
          rw [← hv]
          congr 1
          rw [Nat.mul_comm] at hdm
          omega
        · cases hl
    · cases hl

/-- A value that reads: cell j of it. -/
theorem leaf_of_Trod {t : TypeId} {v : Value} {d : DataW H} {p : List MemPlace} (h : DataW.Trod enc P w base spare held t v d p) (n j : Nat) {L : Option IntKind} (hl : leafAt P n t j = some L) :
    ∃ u, v.cells.toList[j]? = some u ∧ LeafOk L u := by
  obtain ⟨fuel, hf⟩ := h
  exact leaf_of_trod n fuel t _ _ j L hf hl

theorem agg_of_struct {r : Reach} {b0 : Nat} {t : TypeId} {fs : Array Field} {v : Value} (ht : P.underlying t = some (.struct fs)) (hv : Value.okWide P w r b0 t v) :
    ∃ l : List Value, v = .agg ⟨l⟩ ∧ l.length = P.cellsOf t := by
  obtain ⟨cs, rfl, hs⟩ := okWide_struct ht hv
  exact ⟨cs.toList, by simp, by simpa using hs⟩
theorem agg_of_array {r : Reach} {b0 : Nat} {t e : TypeId} {n : Nat} {v : Value} (ht : P.underlying t = some (.array n e)) (hv : Value.okWide P w r b0 t v) :
    ∃ l : List Value, v = .agg ⟨l⟩ ∧ l.length = P.cellsOf t := by
  simp only [Value.okWide, ht] at hv
  obtain ⟨cs, rfl, hs, _⟩ := hv
  exact ⟨cs.toList, by simp, by simpa using hs⟩
end

theorem LeafOk.int_ {k : IntKind} {l : List Value} {j : Nat} (h : ∃ u, l[j]? = some u ∧ LeafOk (some k) u) : ∃ n, l[j]? = some (.int k n) ∧ (Lit.int k n).wf = true := by
  obtain ⟨u, hu, n, rfl, hw⟩ := h
  exact ⟨n, hu, hw⟩
theorem LeafOk.bool_ {l : List Value} {j : Nat} (h : ∃ u, l[j]? = some u ∧ LeafOk none u) : ∃ b, l[j]? = some (.bool b) := by
  obtain ⟨u, hu, b, rfl⟩ := h
  exact ⟨b, hu⟩

end Go.Proofs.Ytfepokiibdkoeaa


/-
  A frame for laws over plain arguments: if the walk of a law returns true, and below the heap's old size nothing turns, then the law's row holds.
  Conditions: none beyond the row's own.
-/
namespace Go.Proofs.Ytfepokiibdkoeaa
open Go.ChangeShapes Go.WideShapes Go.ChangeAt Go.RowKit

section
variable {H : Type} {enc : TypeId × Value → H}

/-- All arguments read behind the call as they did, if below the heap's old size nothing has turned. -/
theorem below_trodAll {P : Program} (hl : laidOutB P = true) {W W' : World} (hb : Below W.heap.size W W') :
    ∀ (ts : List TypeId) (vs : List Value) (ds : List (DataW H)) (ps : List MemPlace),
      (ts.all fun t => P.readableRec t && decide (t < P.types.size)) = true →
      DataW.TrodAll enc P W 0 (fun _ => true) true ts vs ds ps →
      DataW.TrodAll enc P W' 0 (fun b => decide (b < W.heap.size)) true ts vs ds ps := by
  intro ts
  induction ts with
  | nil =>
    intro vs ds ps _ h
    cases vs with
    | nil =>
      cases ds with
      | nil => simpa [DataW.TrodAll] using h
      | cons d ds => simp [DataW.TrodAll] at h
    | cons v vs => simp [DataW.TrodAll] at h
  | cons t ts ih =>
    intro vs ds ps hr h
    simp only [List.all_cons, Bool.and_eq_true, decide_eq_true_eq] at hr
    obtain ⟨v, vs', d, ds', p, q, rfl, rfl, rfl, h1, h2⟩ := trodAll_cons h
    have hlt : ∀ x ∈ p, x.block < W.heap.size := by
      obtain ⟨m, hm⟩ := h1
      exact DataW.trod_lt m _ _ _ hm
    exact trodAll_cons_mk (Below.trod hl hr.1.1 hr.1.2 h1 hb hlt) (ih _ _ _ hr.2 h2)

theorem trodAll_length {P : Program} {w : World} {base : Nat} {spare : Nat → Bool} {held : Bool} : ∀ (ts : List TypeId) (vs : List Value) (ds : List (DataW H)) (ps : List MemPlace),
    DataW.TrodAll enc P w base spare held ts vs ds ps → ds.length = ts.length := by
  intro ts
  induction ts with
  | nil =>
    intro vs ds ps h
    cases vs with
    | nil =>
      cases ds with
      | nil => rfl
      | cons d ds => simp [DataW.TrodAll] at h
    | cons v vs => simp [DataW.TrodAll] at h
  | cons t ts ih =>
    intro vs ds ps h
    obtain ⟨v, vs', d, ds', p, q, rfl, rfl, rfl, _, h2⟩ := trodAll_cons h
    simp [ih _ _ _ h2]

/-- The row's step, for a law of whatever number of arguments. -/
theorem law_lifted {C : Checked} {os : Os} {f : FuncId} {fn : Func} {s : ChangeSpec} {conds : List PathCond} {b : TypeId}
    (own : ownKnob C.prog.godebug = none) (started : os.Started) (noInit : C.prog.inits.idxOf? f = none) (hfn : C.prog.funcs[f]? = some fn)
    (witness : ∃ (w : World) (tape : Tape) (i : Input), w.os = os ∧ (w.forCall tape i).Shaped C.prog ∧ i.vars = [] ∧ Input.okWide C.prog (w.forCall tape i) .any w.heap.size f i ∧
      s.pre6 enc C.prog fn conds false (w.forCall tape i).memory i.args ∧ ({} : Assume).holds C.prog (lone (Frame.enter C.prog f i.args .normal) [] (w.forCall tape i)))
    (hl : laidOutB C.prog = true) (hvars : s.vars = []) (hres : fn.resultTypes = #[b]) (hb : C.prog.underlying b = some .bool)
    (hread : (fn.params.toList.all fun t => C.prog.readableRec t && decide (t < C.prog.types.size)) = true)
    (hspec : ∀ ds : List (DataW H), ds.length = fn.params.size → s.fn H ds = { results := [.lit (.bool true)], args := ds, vars := [] })
    (walk : ∀ (W : World) (base : Nat) (args : Array Value) (ds : List (DataW H)) (p : List MemPlace),
      (∀ (j : Nat) t v, fn.params[j]? = some t → args[j]? = some v → Value.okWide C.prog W .any base t v) →
      DataW.TrodAll enc C.prog W 0 (fun _ => true) true fn.params.toList args.toList ds p →
      Calls C.prog f args W fun e W' => e = .returned (.bool true) ∧ Below W.heap.size W W') :
    ReturnsInHanded {} C os f .any (s.pre6 enc C.prog fn conds false) (s.post enc C.prog fn false true false false) := by
  refine returnsInHanded_of_change own started noInit hfn witness ?_
  intro W base args ds gs before hval hW _ _
  have hW' := hW
  obtain ⟨p, q, hA, hV, rfl, _, _⟩ := hW
  rw [hvars] at hV
  obtain ⟨rfl, rfl⟩ := trodVars_none hV
  refine (walk W base args ds p hval hA).mono fun e W' ⟨he, bel⟩ => ?_
  have hlen : ds.length = fn.params.size := by simpa using trodAll_length _ _ _ _ hA
  have hsp := hspec ds hlen
  refine ⟨_, he, ds, [], _, [], p, [], hW', ?_, ?_, ?_, bel.frame _, fun h => by cases h⟩
  · rw [List.append_nil, hsp, hres]
    exact trodAll_mk1 (shut_bool hb _)
  · rw [List.append_nil, hsp]
    exact below_trodAll hl bel _ _ _ _ hread hA
  · rw [List.append_nil, hsp, hvars]
    rfl
end

end Go.Proofs.Ytfepokiibdkoeaa


/-
  What all laws' last texts want: the program's two closed facts, and five arguments.
  Conditions: none.
-/
namespace Go.Proofs.Ytfepokiibdkoeaa
open Go.ChangeShapes Go.WideShapes Go.RowKit
set_option linter.unusedVariables false

theorem own_none : ownKnob Try.prog.godebug = none := by kernel_rfl
theorem laid_out : laidOutB Try.prog = true := by kernel_rfl

section
variable {H : Type} {enc : TypeId × Value → H} {P : Program} {w : World} {base : Nat} {spare : Nat → Bool} {held : Bool}
theorem trodAll_five {t t' t'' t3 t4 : TypeId} {args : Array Value} {ds : List (DataW H)} {ps : List MemPlace} (h : DataW.TrodAll enc P w base spare held [t, t', t'', t3, t4] args.toList ds ps) :
    ∃ v v' v'' v3 v4 d d' d'' d3 d4 p p' p'' p3 p4, args = #[v, v', v'', v3, v4] ∧ ds = [d, d', d'', d3, d4] ∧ ps = p ++ p' ++ p'' ++ p3 ++ p4 ∧ DataW.Trod enc P w base spare held t v d p ∧ DataW.Trod enc P w base spare held t' v' d' p' ∧
      DataW.Trod enc P w base spare held t'' v'' d'' p'' ∧ DataW.Trod enc P w base spare held t3 v3 d3 p3 ∧ DataW.Trod enc P w base spare held t4 v4 d4 p4 := by
  obtain ⟨v, vs, d, ds', p, q, hargs, rfl, rfl, hd, hrest⟩ := trodAll_cons h
  obtain ⟨v', vs', d', ds'', p', q', rfl, rfl, rfl, hd', hrest'⟩ := trodAll_cons hrest
  obtain ⟨v'', vs'', d'', ds''', p'', q'', rfl, rfl, rfl, hd'', hrest''⟩ := trodAll_cons hrest'
  obtain ⟨v3, vs3, d3, ds3, p3, q3, rfl, rfl, rfl, hd3, hrest3⟩ := trodAll_cons hrest''
  obtain ⟨v4, vs4, d4, ds4, p4, q4, rfl, rfl, rfl, hd4, hrest4⟩ := trodAll_cons hrest3
  obtain ⟨rfl, rfl, rfl⟩ := trodAll_nil hrest4
  exact ⟨v, v', v'', v3, v4, d, d', d'', d3, d4, p, p', p'', p3, p4, by cases args; simp_all, rfl, by simp, hd, hd', hd'', hd3, hd4⟩
end

end Go.Proofs.Ytfepokiibdkoeaa


/-
  Six arguments of a law, and seven.
  Conditions: none.
-/
namespace Go.Proofs.Ytfepokiibdkoeaa
open Go.ChangeShapes Go.WideShapes Go.RowKit
set_option linter.unusedVariables false

section
variable {H : Type} {enc : TypeId × Value → H} {P : Program} {w : World} {base : Nat} {spare : Nat → Bool} {held : Bool}
theorem trodAll_six {t0 t1 t2 t3 t4 t5 : TypeId} {args : Array Value} {ds : List (DataW H)} {ps : List MemPlace} (h : DataW.TrodAll enc P w base spare held [t0, t1, t2, t3, t4, t5] args.toList ds ps) :
    ∃ v0 v1 v2 v3 v4 v5 d0 d1 d2 d3 d4 d5 p0 p1 p2 p3 p4 p5, args = #[v0, v1, v2, v3, v4, v5] ∧ ds = [d0, d1, d2, d3, d4, d5] ∧ ps = p0 ++ p1 ++ p2 ++ p3 ++ p4 ++ p5 ∧ DataW.Trod enc P w base spare held t0 v0 d0 p0 ∧ DataW.Trod enc P w base spare held t1 v1 d1 p1 ∧ DataW.Trod enc P w base spare held t2 v2 d2 p2 ∧ DataW.Trod enc P w base spare held t3 v3 d3 p3 ∧ DataW.Trod enc P w base spare held t4 v4 d4 p4 ∧ DataW.Trod enc P w base spare held t5 v5 d5 p5 := by
  obtain ⟨v0, vs0, d0, ds0, p0, q0, hargs, rfl, rfl, hd0, r0⟩ := trodAll_cons h
  obtain ⟨v1, vs1, d1, ds1, p1, q1, rfl, rfl, rfl, hd1, r1⟩ := trodAll_cons r0
  obtain ⟨v2, vs2, d2, ds2, p2, q2, rfl, rfl, rfl, hd2, r2⟩ := trodAll_cons r1
  obtain ⟨v3, vs3, d3, ds3, p3, q3, rfl, rfl, rfl, hd3, r3⟩ := trodAll_cons r2
  obtain ⟨v4, vs4, d4, ds4, p4, q4, rfl, rfl, rfl, hd4, r4⟩ := trodAll_cons r3
  obtain ⟨v5, vs5, d5, ds5, p5, q5, rfl, rfl, rfl, hd5, r5⟩ := trodAll_cons r4
  obtain ⟨rfl, rfl, rfl⟩ := trodAll_nil r5
  exact ⟨v0, v1, v2, v3, v4, v5, d0, d1, d2, d3, d4, d5, p0, p1, p2, p3, p4, p5, by cases args; simp_all, rfl, by simp, hd0, hd1, hd2, hd3, hd4, hd5⟩
theorem trodAll_seven {t0 t1 t2 t3 t4 t5 t6 : TypeId} {args : Array Value} {ds : List (DataW H)} {ps : List MemPlace} (h : DataW.TrodAll enc P w base spare held [t0, t1, t2, t3, t4, t5, t6] args.toList ds ps) :
    ∃ v0 v1 v2 v3 v4 v5 v6 d0 d1 d2 d3 d4 d5 d6 p0 p1 p2 p3 p4 p5 p6, args = #[v0, v1, v2, v3, v4, v5, v6] ∧ ds = [d0, d1, d2, d3, d4, d5, d6] ∧ ps = p0 ++ p1 ++ p2 ++ p3 ++ p4 ++ p5 ++ p6 ∧ DataW.Trod enc P w base spare held t0 v0 d0 p0 ∧ DataW.Trod enc P w base spare held t1 v1 d1 p1 ∧ DataW.Trod enc P w base spare held t2 v2 d2 p2 ∧ DataW.Trod enc P w base spare held t3 v3 d3 p3 ∧ DataW.Trod enc P w base spare held t4 v4 d4 p4 ∧ DataW.Trod enc P w base spare held t5 v5 d5 p5 ∧ DataW.Trod enc P w base spare held t6 v6 d6 p6 := by
  obtain ⟨v0, vs0, d0, ds0, p0, q0, hargs, rfl, rfl, hd0, r0⟩ := trodAll_cons h
  obtain ⟨v1, vs1, d1, ds1, p1, q1, rfl, rfl, rfl, hd1, r1⟩ := trodAll_cons r0
  obtain ⟨v2, vs2, d2, ds2, p2, q2, rfl, rfl, rfl, hd2, r2⟩ := trodAll_cons r1
  obtain ⟨v3, vs3, d3, ds3, p3, q3, rfl, rfl, rfl, hd3, r3⟩ := trodAll_cons r2
  obtain ⟨v4, vs4, d4, ds4, p4, q4, rfl, rfl, rfl, hd4, r4⟩ := trodAll_cons r3
  obtain ⟨v5, vs5, d5, ds5, p5, q5, rfl, rfl, rfl, hd5, r5⟩ := trodAll_cons r4
  obtain ⟨v6, vs6, d6, ds6, p6, q6, rfl, rfl, rfl, hd6, r6⟩ := trodAll_cons r5
  obtain ⟨rfl, rfl, rfl⟩ := trodAll_nil r6
  exact ⟨v0, v1, v2, v3, v4, v5, v6, d0, d1, d2, d3, d4, d5, d6, p0, p1, p2, p3, p4, p5, p6, by cases args; simp_all, rfl, by simp, hd0, hd1, hd2, hd3, hd4, hd5, hd6⟩
end

end Go.Proofs.Ytfepokiibdkoeaa


/-
  The arguments of the laws of layer 6: a fact, by value; eight numbers, and four, by value.
  Conditions: none.
-/
namespace Go.Proofs.Ytfepokiibdkoeaa
open Go.ChangeShapes Go.WideShapes Go.RowKit
set_option linter.unusedVariables false

section
variable {H : Type} {enc : TypeId × Value → H} {w : World} {base : Nat} {spare : Nat → Bool} {held : Bool}
set_option maxRecDepth 100000 in
theorem open_fact {r : Reach} {b0 : Nat} {v : Value} {d : DataW H} {p : List MemPlace} (hv : Value.okWide Try.prog w r b0 28 v) (h : DataW.Trod enc Try.prog w base spare held 28 v d p) :
    ∃ f : Fc, v = fV f ∧ fIn f := by
  obtain ⟨l, rfl, hl⟩ := agg_of_struct Try.underlying28 hv
  have hc : Try.prog.cellsOf 28 = 4 := by kernel_rfl
  rw [hc] at hl
  obtain ⟨n0, e0, w0⟩ := LeafOk.int_ (leaf_of_Trod h 8 0 (L := some .u64) (by kernel_rfl))
  obtain ⟨n1, e1, w1⟩ := LeafOk.int_ (leaf_of_Trod h 8 1 (L := some .u64) (by kernel_rfl))
  obtain ⟨n2, e2, w2⟩ := LeafOk.int_ (leaf_of_Trod h 8 2 (L := some .u64) (by kernel_rfl))
  obtain ⟨n3, e3, w3⟩ := LeafOk.int_ (leaf_of_Trod h 8 3 (L := some .u64) (by kernel_rfl))
  match l, hl with
  | [c0, c1, c2, c3], _ =>
    simp [Value.cells] at e0 e1 e2 e3
    subst e0 e1 e2 e3
    obtain ⟨x, rfl⟩ := bv_of (bounds_u64 w0)
    obtain ⟨y, rfl⟩ := bv_of (bounds_u64 w1)
    exact ⟨((x, y), (n2, n3)), rfl, bounds_u64 w2, bounds_u64 w3⟩
end
section
variable {H : Type} {enc : TypeId × Value → H} {w : World} {base : Nat} {spare : Nat → Bool} {held : Bool}
set_option maxRecDepth 100000 in
theorem open_eight {r : Reach} {b0 : Nat} {v : Value} {d : DataW H} {p : List MemPlace} (hv : Value.okWide Try.prog w r b0 51 v) (h : DataW.Trod enc Try.prog w base spare held 51 v d p) :
    ∃ b0 b1 b2 b3 b4 b5 b6 b7 : BitVec 64, v = .agg #[uV b0, uV b1, uV b2, uV b3, uV b4, uV b5, uV b6, uV b7] := by
  obtain ⟨l, rfl, hl⟩ := agg_of_array Try.underlying51 hv
  have hc : Try.prog.cellsOf 51 = 8 := by kernel_rfl
  rw [hc] at hl
  obtain ⟨n0, e0, w0⟩ := LeafOk.int_ (leaf_of_Trod h 8 0 (L := some .u64) (by kernel_rfl))
  obtain ⟨n1, e1, w1⟩ := LeafOk.int_ (leaf_of_Trod h 8 1 (L := some .u64) (by kernel_rfl))
  obtain ⟨n2, e2, w2⟩ := LeafOk.int_ (leaf_of_Trod h 8 2 (L := some .u64) (by kernel_rfl))
  obtain ⟨n3, e3, w3⟩ := LeafOk.int_ (leaf_of_Trod h 8 3 (L := some .u64) (by kernel_rfl))
  obtain ⟨n4, e4, w4⟩ := LeafOk.int_ (leaf_of_Trod h 8 4 (L := some .u64) (by kernel_rfl))
  obtain ⟨n5, e5, w5⟩ := LeafOk.int_ (leaf_of_Trod h 8 5 (L := some .u64) (by kernel_rfl))
  obtain ⟨n6, e6, w6⟩ := LeafOk.int_ (leaf_of_Trod h 8 6 (L := some .u64) (by kernel_rfl))
  obtain ⟨n7, e7, w7⟩ := LeafOk.int_ (leaf_of_Trod h 8 7 (L := some .u64) (by kernel_rfl))
  match l, hl with
  | [c0, c1, c2, c3, c4, c5, c6, c7], _ =>
    simp [Value.cells] at e0 e1 e2 e3 e4 e5 e6 e7
    subst e0 e1 e2 e3 e4 e5 e6 e7
    obtain ⟨x0, rfl⟩ := bv_of (bounds_u64 w0)
    obtain ⟨x1, rfl⟩ := bv_of (bounds_u64 w1)
    obtain ⟨x2, rfl⟩ := bv_of (bounds_u64 w2)
    obtain ⟨x3, rfl⟩ := bv_of (bounds_u64 w3)
    obtain ⟨x4, rfl⟩ := bv_of (bounds_u64 w4)
    obtain ⟨x5, rfl⟩ := bv_of (bounds_u64 w5)
    obtain ⟨x6, rfl⟩ := bv_of (bounds_u64 w6)
    obtain ⟨x7, rfl⟩ := bv_of (bounds_u64 w7)
    exact ⟨x0, x1, x2, x3, x4, x5, x6, x7, rfl⟩
end
section
variable {H : Type} {enc : TypeId × Value → H} {w : World} {base : Nat} {spare : Nat → Bool} {held : Bool}
set_option maxRecDepth 100000 in
theorem open_four {r : Reach} {b0 : Nat} {v : Value} {d : DataW H} {p : List MemPlace} (hv : Value.okWide Try.prog w r b0 60 v) (h : DataW.Trod enc Try.prog w base spare held 60 v d p) :
    ∃ b0 b1 b2 b3 : BitVec 64, v = .agg #[uV b0, uV b1, uV b2, uV b3] := by
  obtain ⟨l, rfl, hl⟩ := agg_of_array Try.underlying60 hv
  have hc : Try.prog.cellsOf 60 = 4 := by kernel_rfl
  rw [hc] at hl
  obtain ⟨n0, e0, w0⟩ := LeafOk.int_ (leaf_of_Trod h 8 0 (L := some .u64) (by kernel_rfl))
  obtain ⟨n1, e1, w1⟩ := LeafOk.int_ (leaf_of_Trod h 8 1 (L := some .u64) (by kernel_rfl))
  obtain ⟨n2, e2, w2⟩ := LeafOk.int_ (leaf_of_Trod h 8 2 (L := some .u64) (by kernel_rfl))
  obtain ⟨n3, e3, w3⟩ := LeafOk.int_ (leaf_of_Trod h 8 3 (L := some .u64) (by kernel_rfl))
  match l, hl with
  | [c0, c1, c2, c3], _ =>
    simp [Value.cells] at e0 e1 e2 e3
    subst e0 e1 e2 e3
    obtain ⟨x0, rfl⟩ := bv_of (bounds_u64 w0)
    obtain ⟨x1, rfl⟩ := bv_of (bounds_u64 w1)
    obtain ⟨x2, rfl⟩ := bv_of (bounds_u64 w2)
    obtain ⟨x3, rfl⟩ := bv_of (bounds_u64 w3)
    exact ⟨x0, x1, x2, x3, rfl⟩
end

end Go.Proofs.Ytfepokiibdkoeaa

