/-
  Texts, one behind the other: Mach3, Mach4, CondPair, CondTurn.
  Conditions: those that each theorem states.
-/
import Derived.Test.YtlbhffdpklbhfaaGreatPz24
import Derived.Test.YtlbhffdpklbhfaaGreatPz15
import Derived.Test.YtlbhffdpklbhfaaGreatPz4
import Derived.Test.YtlbhffdpklbhfaaGreatPz3
import Derived.Test.YtlbhffdpklbhfaaGreatPz10
import Derived.Test.YtlbhffdpklbhfaaGreatPz5
import Derived.Test.YtlbhffdpklbhfaaGreatPz2
import Derived.LoopTactic
import Derived.Test.YtlbhffdpklbhfaaGreatPz1
namespace Go.Proofs.YtlbhffdpklbhfaaGreat
open Go.RowKit
set_option maxRecDepth 100000
set_option linter.unusedVariables false
set_option linter.unusedSimpArgs false
theorem ne_of_eq0 {e : Int} (h : (e == 0) = false) : (e != 0) = true := by unfold bne; rw [h]; rfl
theorem ne_of_eq1 {e : Int} (h : (e == 0) = true) : (e != 0) = false := by unfold bne; rw [h]; rfl
theorem rd_rng {S : MS} (h : S.ok) (i : Int) (hi : 0 ≤ i ∧ i ≤ 10) : 0 ≤ (rd S i).1 ∧ (rd S i).1 ≤ 18446744073709551615 := by
  unfold rd
  have := h.r i.toNat (by omega)
  split
  · exact this
  · exact ⟨by show (0 : Int) ≤ 0; omega, by show (0 : Int) ≤ _; omega⟩
theorem mFst_rng {S : MS} (h : S.ok) (x : Ins) (v : Wh) (hi : 0 ≤ x.dst ∧ x.dst ≤ 10) : 0 ≤ (mFst S x v).1 ∧ (mFst S x v).1 ≤ 18446744073709551615 := by
  unfold mFst
  split
  · exact ⟨by show (0 : Int) ≤ 0; omega, by show (0 : Int) ≤ _; omega⟩
  · exact rd_rng h _ hi
theorem mSec_rng {S : MS} (h : S.ok) (x : Ins) (v : Wh) (hi : 0 ≤ x.src ∧ x.src ≤ 10) : 0 ≤ (mSec S x v).1 ∧ (mSec S x v).1 ≤ 18446744073709551615 := by
  unfold mSec
  split
  · exact rd_rng h _ hi
  · show 0 ≤ x.imm % 18446744073709551616 ∧ x.imm % 18446744073709551616 ≤ _
    omega
theorem did_below {a b : Int} {w w' : World} {e : Ending} (h : Did a b w e w') : e = .returned (.tuple #[.int .u64 a, .int .i64 b]) ∧ Below w.heap.size w w' := by
  obtain ⟨rfl, n, rfl⟩ := h
  exact ⟨rfl, below_drewN (Below.refl _ _) n⟩
set_option maxHeartbeats 2000000 in
theorem m11_arith (w : World) (g : Nat) (S : MS) (H : Nat → Prop) (x : Ins) (v : Wh) (h : (sysX g S).R w H) (hr : RegOk x) (hx : x.ok) :
    Calls Tryz.prog 113 #[.pointer (some ⟨g, 0, none⟩), iV x, whV v] w (Gives (.tuple #[.int .u64 (mArith S x v).1, .int .i64 (mArith S x v).2]) w) := by
  have Q := Lib.hid (IDuo.new x v w)
  have C1 := Lib.hid fun u (b : Below w.heap.size w u) => m11_first u g S H x v ((sysX g S).after h b) hr.1
  have C2 := Lib.hid fun u (b : Below w.heap.size w u) => m11_second u g S H x v ((sysX g S).after h b) hr.2 hx
  have hok := sysX_ok h
  have C3 := Lib.hid fun u => did_any v.op x.off (mFst S x v).1 (mSec S x v).1 v.wide u (mFst_rng hok x v hr.1).1 (mSec_rng hok x v hr.2).1
  unfold mArith
  clear h hr hx hok
  generalize mFst S x v = p at *
  generalize mSec S x v = q at *
  obtain ⟨a, ea⟩ := p
  obtain ⟨b, eb⟩ := q
  dsimp only at *
  cases h1 : (ea == 0)
  · have n1 := ne_of_eq0 h1
    rw [if_neg Bool.false_ne_true]
    clear C2 C3 h1
    go_enter Tryz.func113, Tryz.ntmps113
    go_wp2_with fail
    refine (C1.out _ Q.out.1).mono ?_
    rintro e w1 ⟨rfl, b1⟩
    replace Q := Lib.hid (Q.out.after b1)
    clear b1
    obtain ⟨p0, p1, p2, p3, p4⟩ := Q.out.2.1.cells
    obtain ⟨z0, z1, z2, z3, z4, z5⟩ := Q.out.2.2.cells
    have k1 := Q.out.2.1.lt
    have k2 := Q.out.2.2.lt
    go_wp2_with fail
    go_ret2
    exact ⟨rfl, Q.out.1⟩
  have n1 := ne_of_eq1 h1
  rw [if_pos rfl]
  clear h1
  cases h2 : (eb == 0)
  · have n2 := ne_of_eq0 h2
    rw [if_neg Bool.false_ne_true]
    clear C3 h2
    go_enter Tryz.func113, Tryz.ntmps113
    go_wp2_with fail
    refine (C1.out _ Q.out.1).mono ?_
    rintro e w1 ⟨rfl, b1⟩
    replace Q := Lib.hid (Q.out.after b1)
    clear b1
    obtain ⟨p0, p1, p2, p3, p4⟩ := Q.out.2.1.cells
    obtain ⟨z0, z1, z2, z3, z4, z5⟩ := Q.out.2.2.cells
    have k1 := Q.out.2.1.lt
    have k2 := Q.out.2.2.lt
    go_wp2_with fail
    refine (C2.out _ Q.out.1).mono ?_
    rintro e w2 ⟨rfl, b2⟩
    replace Q := Lib.hid (Q.out.after b2)
    clear b2
    clear p0 p1 p2 p3 p4 z0 z1 z2 z3 z4 z5 k1 k2
    obtain ⟨p0, p1, p2, p3, p4⟩ := Q.out.2.1.cells
    obtain ⟨z0, z1, z2, z3, z4, z5⟩ := Q.out.2.2.cells
    have k1 := Q.out.2.1.lt
    have k2 := Q.out.2.2.lt
    go_wp2_with fail
    go_ret2
    exact ⟨rfl, Q.out.1⟩
  have n2 := ne_of_eq1 h2
  rw [if_pos rfl]
  clear h2
  go_enter Tryz.func113, Tryz.ntmps113
  go_wp2_with fail
  refine (C1.out _ Q.out.1).mono ?_
  rintro e w1 ⟨rfl, b1⟩
  replace Q := Lib.hid (Q.out.after b1)
  clear b1
  obtain ⟨p0, p1, p2, p3, p4⟩ := Q.out.2.1.cells
  obtain ⟨z0, z1, z2, z3, z4, z5⟩ := Q.out.2.2.cells
  have k1 := Q.out.2.1.lt
  have k2 := Q.out.2.2.lt
  go_wp2_with fail
  refine (C2.out _ Q.out.1).mono ?_
  rintro e w2 ⟨rfl, b2⟩
  replace Q := Lib.hid (Q.out.after b2)
  clear b2
  clear p0 p1 p2 p3 p4 z0 z1 z2 z3 z4 z5 k1 k2
  obtain ⟨p0, p1, p2, p3, p4⟩ := Q.out.2.1.cells
  obtain ⟨z0, z1, z2, z3, z4, z5⟩ := Q.out.2.2.cells
  have k1 := Q.out.2.1.lt
  have k2 := Q.out.2.2.lt
  go_wp2_with fail
  refine (C3.out _).mono ?_
  intro e w3 hd
  obtain ⟨rfl, b3⟩ := did_below hd
  replace Q := Lib.hid (Q.out.after b3)
  clear b3 hd
  go_wp2_with fail
  go_ret2
  exact ⟨rfl, Q.out.1⟩
theorem offI_rng (n off : Int) : 0 ≤ offI n off ∧ offI n off ≤ 18446744073709551615 := by unfold offI; omega
theorem off_wrap (n off : Int) : IntKind.u64.wrap (n + IntKind.u64.wrap off) = offI n off := by
  rw [IntKind.wrap_u64, IntKind.wrap_u64]; unfold offI; omega
theorem sysX_mem {w : World} {g : Nat} {S : MS} {H : Nat → Prop} (h : (sysX g S).R w H) : ∃ gm, w.cell? ⟨g, 2, none⟩ = some (.pointer (some ⟨gm, 0, none⟩)) ∧ ∀ u, Below w.heap.size w u → ∃ G, RepP u gm S.M G := by
  obtain ⟨A, hA, hb, hl, hok⟩ := sysX_blk h
  obtain ⟨_, A', hA', F1, F2, h1, ⟨F3, F4, h3, _⟩, _⟩ := id h
  obtain ⟨-, -, c2, -⟩ := xc_head h1.1
  obtain ⟨F, G, hD, -⟩ := h3
  exact ⟨A'.gm, c2, fun u b => ⟨G, hD.mem.after b⟩⟩
theorem pLoad_rng {M : PM} (h : PMok M) (a s : Int) : 0 ≤ (pLoad M a s).1 ∧ (pLoad M a s).1 ≤ 18446744073709551615 := by
  unfold pLoad
  split
  · rename_i hf
    split
    · have h1 := leN_lt (pRead_ok h a s)
      have h2 : (pRead M a s).1.length ≤ 8 := by
        have hs : 0 ≤ s ∧ s ≤ 8 := by
          simp only [fitsZ, Bool.or_eq_true, beq_iff_eq] at hf
          omega
        unfold pRead
        split
        · simp
        · split
          · simp
          · split
            · simp
            · simp only [List.length_take]
              omega
      have h3 : (256 : Int) ^ (pRead M a s).1.length ≤ 256 ^ 8 := by exact_mod_cast Nat.pow_le_pow_right (by decide : 0 < 256) h2
      have h4 : (256 : Int) ^ 8 = 18446744073709551616 := by decide
      show 0 ≤ leN _ ∧ leN _ ≤ _
      omega
    · exact ⟨by show (0 : Int) ≤ 0; omega, by show (0 : Int) ≤ _; omega⟩
  · exact ⟨by show (0 : Int) ≤ 0; omega, by show (0 : Int) ≤ _; omega⟩
set_option maxHeartbeats 2000000 in
theorem m11_load (w : World) (g : Nat) (S : MS) (H : Nat → Prop) (x : Ins) (v : Wh) (h : (sysX g S).R w H) (hr : RegOk x) (hx : x.ok) (hv : 0 ≤ v.size ∧ v.size ≤ 16) :
    Calls Tryz.prog 117 #[.pointer (some ⟨g, 0, none⟩), iV x, whV v] w (Gives (.tuple #[.int .u64 (mLoad S x v).1, .int .i64 (mLoad S x v).2]) w) := by
  have Q := Lib.hid (IDuo.new x v w)
  have C1 := Lib.hid fun u (b : Below w.heap.size w u) => m11_readI u g S H x.src ((sysX g S).after h b) hr.2
  obtain ⟨gm, cm, hm⟩ := sysX_mem h
  have CM := Lib.hid fun u (b : Below w.heap.size w u) => cell_on cm b
  have C2 := Lib.hid fun u (b : Below w.heap.size w u) => (hm u b).elim fun G hG => c8_Load u gm S.M G (offI (rd S x.src).1 x.off) v.size hG (offI_rng _ _)
  have hok := sysX_ok h
  have hpm := (hm w (Below.refl _ _)).elim fun G hG => hG.ok
  have C3 := Lib.hid fun u => sign_says (pLoad S.M (offI (rd S x.src).1 x.off) v.size).1 (8 * v.size) u (pLoad_rng hpm _ _).1 (pLoad_rng hpm _ _).2
  have OW := Lib.hid (off_wrap (rd S x.src).1 x.off)
  unfold mLoad
  have e8 : wrap64 (8 * v.size) = 8 * v.size := by unfold wrap64; omega
  clear h hr hok hm cm hpm hv hx
  generalize offI (rd S x.src).1 x.off = ad at *
  generalize pLoad S.M ad v.size = q at *
  generalize rd S x.src = p at *
  obtain ⟨a, ea⟩ := p
  obtain ⟨n, en⟩ := q
  dsimp only at *
  cases h1 : (ea == 0)
  · have n1 := ne_of_eq0 h1
    rw [if_neg Bool.false_ne_true]
    clear C2 C3 h1
    go_enter Tryz.func117, Tryz.ntmps117
    go_wp2_with fail
    refine (C1.out _ Q.out.1).mono ?_
    rintro e w1 ⟨rfl, b1⟩
    replace Q := Lib.hid (Q.out.after b1)
    clear b1
    obtain ⟨p0, p1, p2, p3, p4⟩ := Q.out.2.1.cells
    obtain ⟨z0, z1, z2, z3, z4, z5⟩ := Q.out.2.2.cells
    have k1 := Q.out.2.1.lt
    have k2 := Q.out.2.2.lt
    go_wp2_with fail
    go_ret2
    exact ⟨rfl, Q.out.1⟩
  have n1 := ne_of_eq1 h1
  rw [if_pos rfl]
  clear h1
  cases h2 : (en == 0)
  · rw [Bool.false_and, if_neg Bool.false_ne_true]
    clear C3
    go_enter Tryz.func117, Tryz.ntmps117
    go_wp2_with fail
    refine (C1.out _ Q.out.1).mono ?_
    rintro e w1 ⟨rfl, b1⟩
    replace Q := Lib.hid (Q.out.after b1)
    clear b1
    obtain ⟨p0, p1, p2, p3, p4⟩ := Q.out.2.1.cells
    obtain ⟨z0, z1, z2, z3, z4, z5⟩ := Q.out.2.2.cells
    have k1 := Q.out.2.1.lt
    have k2 := Q.out.2.2.lt
    have OW2 := OW.out
    go_wp2_with fail
    have HB : Below w1.heap.size w1 w1.drew := Below.drew (Below.refl _ _)
    have KK := Lib.hid (fun (wx : World) (hx : Below w1.heap.size w1 wx) => And.intro (CM.out _ (below_next' Q.out.1 hx)) (And.intro (cell_on p3 hx) (cell_on z5 hx)))
    clear p0 p1 p2 p3 p4 z0 z1 z2 z3 z4 z5 k1 k2
    go_region_held3 (fun w' => w'.cell? ⟨g, 2, none⟩ = some (.pointer (some ⟨gm, 0, none⟩)) ∧ w'.cell? ⟨w.heap.size, 3, none⟩ = some (.int .i16 x.off) ∧ w'.cell? ⟨w.heap.size + 1, 5, none⟩ = some (.int .i64 v.size))
      (exact KK.out _ HB)
      (first | (go_at_call 110; refine (C2.out _ (below_next' Q.out.1 HB)).mono ?_; rintro e w3 ⟨rfl, b3⟩; replace HB := below_next' HB b3; clear b3))
    replace Q := Lib.hid (Q.out.after HB)
    clear HB KK C2
    obtain ⟨z0, z1, z2, z3, z4, z5⟩ := Q.out.2.2.cells
    have k2 := Q.out.2.2.lt
    go_wp2_with fail
    go_ret2
    exact ⟨rfl, Q.out.1⟩
  rw [Bool.true_and]
  have h4 : en = 0 := by simpa using h2
  subst h4
  clear h2
  cases h3 : v.signed
  · rw [if_neg Bool.false_ne_true]
    have H3 := Lib.hid h3
    clear C3 h3
    go_enter Tryz.func117, Tryz.ntmps117
    go_wp2_with fail
    refine (C1.out _ Q.out.1).mono ?_
    rintro e w1 ⟨rfl, b1⟩
    replace Q := Lib.hid (Q.out.after b1)
    clear b1
    obtain ⟨p0, p1, p2, p3, p4⟩ := Q.out.2.1.cells
    obtain ⟨z0, z1, z2, z3, z4, z5⟩ := Q.out.2.2.cells
    have k1 := Q.out.2.1.lt
    have k2 := Q.out.2.2.lt
    have OW2 := OW.out
    go_wp2_with fail
    have HB : Below w1.heap.size w1 w1.drew := Below.drew (Below.refl _ _)
    have KK := Lib.hid (fun (wx : World) (hx : Below w1.heap.size w1 wx) => And.intro (CM.out _ (below_next' Q.out.1 hx)) (And.intro (cell_on p3 hx) (cell_on z5 hx)))
    clear p0 p1 p2 p3 p4 z0 z1 z2 z3 z4 z5 k1 k2
    go_region_held3 (fun w' => w'.cell? ⟨g, 2, none⟩ = some (.pointer (some ⟨gm, 0, none⟩)) ∧ w'.cell? ⟨w.heap.size, 3, none⟩ = some (.int .i16 x.off) ∧ w'.cell? ⟨w.heap.size + 1, 5, none⟩ = some (.int .i64 v.size))
      (exact KK.out _ HB)
      (first | (go_at_call 110; refine (C2.out _ (below_next' Q.out.1 HB)).mono ?_; rintro e w3 ⟨rfl, b3⟩; replace HB := below_next' HB b3; clear b3))
    replace Q := Lib.hid (Q.out.after HB)
    clear HB KK C2
    obtain ⟨z0, z1, z2, z3, z4, z5⟩ := Q.out.2.2.cells
    have k2 := Q.out.2.2.lt
    rw [H3.out] at z4
    go_wp2_with fail
    go_ret2
    exact ⟨rfl, Q.out.1⟩
  rw [if_pos rfl]
  have H3 := Lib.hid h3
  clear h3
  go_enter Tryz.func117, Tryz.ntmps117
  go_wp2_with fail
  refine (C1.out _ Q.out.1).mono ?_
  rintro e w1 ⟨rfl, b1⟩
  replace Q := Lib.hid (Q.out.after b1)
  clear b1
  obtain ⟨p0, p1, p2, p3, p4⟩ := Q.out.2.1.cells
  obtain ⟨z0, z1, z2, z3, z4, z5⟩ := Q.out.2.2.cells
  have k1 := Q.out.2.1.lt
  have k2 := Q.out.2.2.lt
  have OW2 := OW.out
  go_wp2_with fail
  have HB : Below w1.heap.size w1 w1.drew := Below.drew (Below.refl _ _)
  have KK := Lib.hid (fun (wx : World) (hx : Below w1.heap.size w1 wx) => And.intro (CM.out _ (below_next' Q.out.1 hx)) (And.intro (cell_on p3 hx) (cell_on z5 hx)))
  clear p0 p1 p2 p3 p4 z0 z1 z2 z3 z4 z5 k1 k2
  go_region_held3 (fun w' => w'.cell? ⟨g, 2, none⟩ = some (.pointer (some ⟨gm, 0, none⟩)) ∧ w'.cell? ⟨w.heap.size, 3, none⟩ = some (.int .i16 x.off) ∧ w'.cell? ⟨w.heap.size + 1, 5, none⟩ = some (.int .i64 v.size))
    (exact KK.out _ HB)
    (first | (go_at_call 110; refine (C2.out _ (below_next' Q.out.1 HB)).mono ?_; rintro e w3 ⟨rfl, b3⟩; replace HB := below_next' HB b3; clear b3))
  replace Q := Lib.hid (Q.out.after HB)
  clear HB KK C2
  obtain ⟨z0, z1, z2, z3, z4, z5⟩ := Q.out.2.2.cells
  have k2 := Q.out.2.2.lt
  rw [H3.out] at z4
  go_wp2_with fail
  refine (C3.out _).mono ?_
  rintro e w5 ⟨rfl, rfl⟩
  go_wp2_with fail
  go_ret2
  exact ⟨rfl, Q.out.1⟩
theorem or_u64I (i : Nat) (a b : Int) (h1 : 0 ≤ a) (h2 : a < 2 ^ i) (h3 : 0 ≤ b) (h4 : b < 18446744073709551616) (hi : (2 : Int) ^ i ≤ 18446744073709551616) (h5 : b.toNat % 2 ^ i = 0) : bits .or .u64 a b = a + b := by
  have ha : a.toNat < 2 ^ i := by
    have : (a.toNat : Int) < ((2 ^ i : Nat) : Int) := by push_cast; omega
    omega
  rw [u64_or a b h1 (by omega) h3 h4, nat_or_low i _ _ ha h5]; omega
theorem long_orI (a b : Int) : bits .or .u64 (a % 4294967296) (b % 4294967296 * 4294967296) = longI a b := by
  rw [or_u64I 32 _ _ (by omega) (by omega) (by omega) (by omega) (by decide) (by omega)]; unfold longI; omega
theorem m11_Long (x y : Ins) (w : World) : Calls Tryz.prog 115 #[iV x, iV y] w (Gives (.int .u64 (longI x.imm y.imm)) w) := by
  go_enter Tryz.func115, Tryz.ntmps115
  go_wp2
  go_quiet (fail)
  go_wp2
  rw [long_orI]
  go_ret
  exact ⟨rfl, below_drewN (((Below.refl _ _).alloc (Nat.le_refl _) _).alloc (by simp) _) _⟩
theorem swapped_below {a b : Int} {w w' : World} {e : Ending} (h : Swapped a b w e w') : e = .returned (.tuple #[.int .u64 a, .int .i64 b]) ∧ Below w.heap.size w w' := by
  obtain ⟨rfl, rfl⟩ := h
  exact ⟨rfl, Below.refl _ _⟩
theorem m11_value_arith (w : World) (g : Nat) (S : MS) (H : Nat → Prop) (x : Ins) (v : Wh) (h : (sysX g S).R w H) (hr : RegOk x) (hx : x.ok) (hk : (v.kind == 1) = true) :
    Calls Tryz.prog 70 #[.pointer (some ⟨g, 0, none⟩), iV x, whV v] w (Gives (.tuple #[.int .u64 (mArith S x v).1, .int .i64 (mArith S x v).2]) w) := by
  have Q := Lib.hid (IDuo.new x v w)
  have C1 := Lib.hid fun u (b : Below w.heap.size w u) => m11_arith u g S H x v ((sysX g S).after h b) hr hx
  clear h hr hx
  generalize mArith S x v = p at *
  obtain ⟨a, ea⟩ := p
  dsimp only at *
  go_enter Tryz.func70, Tryz.ntmps70
  go_wp2_with fail
  refine (C1.out _ Q.out.1).mono ?_
  rintro e w1 ⟨rfl, b1⟩
  replace Q := Lib.hid (Q.out.after b1)
  clear b1
  obtain ⟨p0, p1, p2, p3, p4⟩ := Q.out.2.1.cells
  obtain ⟨z0, z1, z2, z3, z4, z5⟩ := Q.out.2.2.cells
  have k1 := Q.out.2.1.lt
  have k2 := Q.out.2.2.lt
  go_wp2_with fail
  go_ret2
  exact ⟨rfl, Q.out.1⟩
set_option maxHeartbeats 2000000 in
theorem m11_value_swap (w : World) (g : Nat) (S : MS) (H : Nat → Prop) (x : Ins) (v : Wh) (h : (sysX g S).R w H) (hr : RegOk x) (hk1 : (v.kind == 1) = false) (hk : (v.kind == 2) = true) (hv : 0 ≤ v.size ∧ v.size ≤ 16) :
    Calls Tryz.prog 70 #[.pointer (some ⟨g, 0, none⟩), iV x, whV v] w (Gives (.tuple #[.int .u64 (mSwap S x v).1, .int .i64 (mSwap S x v).2]) w) := by
  have Q := Lib.hid (IDuo.new x v w)
  have C1 := Lib.hid fun u (b : Below w.heap.size w u) => m11_readI u g S H x.dst ((sysX g S).after h b) hr.1
  have hok := sysX_ok h
  have C2 := Lib.hid fun u => swap_any v.wide (8 * v.size) (rd S x.dst).1 u (rd_rng hok _ hr.1).1 (rd_rng hok _ hr.1).2
  have e8 : wrap64 (8 * v.size) = 8 * v.size := by unfold wrap64; omega
  unfold mSwap
  clear h hr hok hv
  generalize rd S x.dst = p at *
  obtain ⟨a, ea⟩ := p
  dsimp only at *
  cases h1 : (ea == 0)
  · have n1 := ne_of_eq0 h1
    rw [if_neg Bool.false_ne_true]
    clear C2 h1
    go_enter Tryz.func70, Tryz.ntmps70
    go_wp2_with fail
    refine (C1.out _ Q.out.1).mono ?_
    rintro e w1 ⟨rfl, b1⟩
    replace Q := Lib.hid (Q.out.after b1)
    clear b1
    obtain ⟨p0, p1, p2, p3, p4⟩ := Q.out.2.1.cells
    obtain ⟨z0, z1, z2, z3, z4, z5⟩ := Q.out.2.2.cells
    have k1 := Q.out.2.1.lt
    have k2 := Q.out.2.2.lt
    go_wp2_with fail
    go_ret2
    exact ⟨rfl, Q.out.1⟩
  have n1 := ne_of_eq1 h1
  rw [if_pos rfl]
  clear h1
  go_enter Tryz.func70, Tryz.ntmps70
  go_wp2_with fail
  refine (C1.out _ Q.out.1).mono ?_
  rintro e w1 ⟨rfl, b1⟩
  replace Q := Lib.hid (Q.out.after b1)
  clear b1
  obtain ⟨p0, p1, p2, p3, p4⟩ := Q.out.2.1.cells
  obtain ⟨z0, z1, z2, z3, z4, z5⟩ := Q.out.2.2.cells
  have k1 := Q.out.2.1.lt
  have k2 := Q.out.2.2.lt
  go_wp2_with fail
  refine (C2.out _).mono ?_
  intro e w3 hd
  obtain ⟨rfl, b3⟩ := swapped_below hd
  replace Q := Lib.hid (Q.out.after b3)
  clear b3 hd
  go_wp2_with fail
  go_ret2
  exact ⟨rfl, Q.out.1⟩
set_option maxHeartbeats 2000000 in
theorem m11_value_long (w : World) (g : Nat) (S : MS) (H : Nat → Prop) (x : Ins) (v : Wh) (h : (sysX g S).R w H) (hk1 : (v.kind == 1) = false) (hk2 : (v.kind == 2) = false) (hk : (v.kind == 3) = true) (hl : S.at_ + 1 < S.l.length) :
    Calls Tryz.prog 70 #[.pointer (some ⟨g, 0, none⟩), iV x, whV v] w (Gives (.tuple #[.int .u64 (longI x.imm (iAt S.l (S.at_ + 1)).imm), .int .i64 0]) w) := by
  have Q := Lib.hid (IDuo.new x v w)
  have C1 := Lib.hid fun u => m11_Long x (iAt S.l (S.at_ + 1)) u
  obtain ⟨A, hA, hb, hli, hok⟩ := sysX_blk h
  obtain ⟨c0, -⟩ := xc_head hb
  obtain ⟨c1, -⟩ := xc_tail hb hok.n
  obtain ⟨gl, o, hal, hg, i0, i1, i2, i3, i4⟩ := hli.l.at_ hl
  rw [hal] at c0
  have hlen := chk_len hok.chk
  have e1 : wrap64 ((S.at_ : Int) + 1) = ((S.at_ + 1 : Nat) : Int) := by unfold wrap64; omega
  have e2 : IntKind.i64.wrap ((S.at_ : Int) + 1) = ((S.at_ + 1 : Nat) : Int) := by rw [IntKind.wrap_i64]; omega
  have HC := Lib.hid (And.intro c0 (And.intro c1 (And.intro i0 (And.intro i1 (And.intro i2 (And.intro i3 i4))))))
  have l1 : ((S.at_ + 1 : Nat) : Int) < S.l.length := by omega
  have l0 : (0 : Int) ≤ ((S.at_ + 1 : Nat) : Int) := by omega
  clear h hb hli hok hA hal c0 c1 i0 i1 i2 i3 i4 hlen hl
  generalize iAt S.l (S.at_ + 1) = y at *
  generalize S.at_ + 1 = at1 at *
  generalize S.l.length = n at *
  generalize A.cl = ac at *
  go_enter Tryz.func70, Tryz.ntmps70
  go_wp2_with fail
  have HQ := Q.out.after (Below.drew (Below.refl _ _))
  have KK := Lib.hid (fun (wx : World) (hx : IDuo x v w wx) => And.intro hx.2.1.cells (And.intro (cell_on HC.out.1 hx.1) (And.intro (cell_on HC.out.2.1 hx.1) (And.intro (cell_on HC.out.2.2.1 hx.1) (And.intro (cell_on HC.out.2.2.2.1 hx.1) (And.intro (cell_on HC.out.2.2.2.2.1 hx.1) (And.intro (cell_on HC.out.2.2.2.2.2.1 hx.1) (cell_on HC.out.2.2.2.2.2.2 hx.1))))))))
  clear Q
  go_region_held3 (fun w' => (w'.cell? ⟨w.heap.size, 0, none⟩ = some (.int .u8 x.op) ∧ w'.cell? ⟨w.heap.size, 1, none⟩ = some (.int .u8 x.dst) ∧ w'.cell? ⟨w.heap.size, 2, none⟩ = some (.int .u8 x.src) ∧ w'.cell? ⟨w.heap.size, 3, none⟩ = some (.int .i16 x.off) ∧ w'.cell? ⟨w.heap.size, 4, none⟩ = some (.int .i32 x.imm)) ∧
      w'.cell? ⟨g, 0, none⟩ = some (.slice (some ⟨gl, o, none⟩) n ac) ∧ w'.cell? ⟨g, 27, none⟩ = some (.int .i64 S.at_) ∧
      w'.cell? ⟨gl, o + at1 * 5, none⟩ = some (.int .u8 y.op) ∧ w'.cell? ⟨gl, o + at1 * 5 + 1, none⟩ = some (.int .u8 y.dst) ∧ w'.cell? ⟨gl, o + at1 * 5 + 2, none⟩ = some (.int .u8 y.src) ∧ w'.cell? ⟨gl, o + at1 * 5 + 3, none⟩ = some (.int .i16 y.off) ∧ w'.cell? ⟨gl, o + at1 * 5 + 4, none⟩ = some (.int .i32 y.imm))
    (exact KK.out _ HQ)
    (first | (go_at_call 115; refine (C1.out _).mono ?_; rintro e w3 ⟨rfl, b3⟩; replace HQ := HQ.after b3; clear b3))
  all_goals
    go_wp2_with fail
    go_ret2
    exact ⟨rfl, HQ.1⟩
set_option maxHeartbeats 2000000 in
theorem m11_value_table (w : World) (g : Nat) (S : MS) (H : Nat → Prop) (x : Ins) (v : Wh) (h : (sysX g S).R w H) (hk1 : (v.kind == 1) = false) (hk2 : (v.kind == 2) = false) (hk3 : (v.kind == 3) = false) (hk : (v.kind == 4) = true) (hx : x.ok) (hi : 0 ≤ x.imm) :
    Calls Tryz.prog 70 #[.pointer (some ⟨g, 0, none⟩), iV x, whV v] w (Gives (.tuple #[.int .u64 (mTable S x).1, .int .i64 (mTable S x).2]) w) := by
  have Q := Lib.hid (IDuo.new x v w)
  have C1 := Lib.hid fun u => m11_word x.imm u
  obtain ⟨A, hA, hb, hli, hok⟩ := sysX_blk h
  obtain ⟨-, c1, -⟩ := xc_head hb
  have hD := hok.D.1
  have CM := Lib.hid fun u (b : Below w.heap.size w u) => cell_on c1 b
  have e1 : wrap64 x.imm = x.imm := by have := hx.2.2.2.2; unfold wrap64; omega
  have i31 := hx.2.2.2.2
  unfold mTable
  clear h hb hli hok hA c1 hx
  generalize S.D.length = n at *
  generalize A.ad = aa at *
  generalize A.cd = ac at *
  by_cases hc : (n : Int) ≤ x.imm
  · rw [if_pos hc]
    go_enter Tryz.func70, Tryz.ntmps70
    go_wp2_with fail
    have c1 := CM.out _ Q.out.1
    have QN := Lib.hid fun q => Q.out.after (below_drewN (Below.refl _ _) q)
    go_quiet (fail)
    go_wp2_with fail
    go_ret2
    exact ⟨rfl, (QN.out _).1⟩
  rw [if_neg hc]
  have hc' : x.imm < (n : Int) := by omega
  go_enter Tryz.func70, Tryz.ntmps70
  go_wp2_with fail
  have c1 := CM.out _ Q.out.1
  have QN := Lib.hid fun q => Q.out.after (below_drewN (Below.refl _ _) q)
  go_quiet (fail)
  replace Q := Lib.hid (QN.out nq)
  clear QN c1
  go_wp2_with fail
  refine (C1.out _).mono ?_
  rintro e w3 ⟨rfl, b3⟩
  replace Q := Lib.hid (Q.out.after b3)
  clear b3
  go_wp2_with fail
  go_ret2
  exact ⟨rfl, Q.out.1⟩
theorem m11_value_load (w : World) (g : Nat) (S : MS) (H : Nat → Prop) (x : Ins) (v : Wh) (h : (sysX g S).R w H) (hr : RegOk x) (hx : x.ok) (hv : 0 ≤ v.size ∧ v.size ≤ 16) (hk1 : (v.kind == 1) = false) (hk2 : (v.kind == 2) = false) (hk3 : (v.kind == 3) = false) (hk : (v.kind == 4) = false) :
    Calls Tryz.prog 70 #[.pointer (some ⟨g, 0, none⟩), iV x, whV v] w (Gives (.tuple #[.int .u64 (mLoad S x v).1, .int .i64 (mLoad S x v).2]) w) := by
  have Q := Lib.hid (IDuo.new x v w)
  have C1 := Lib.hid fun u (b : Below w.heap.size w u) => m11_load u g S H x v ((sysX g S).after h b) hr hx hv
  clear h hr hx hv
  generalize mLoad S x v = p at *
  obtain ⟨a, ea⟩ := p
  dsimp only at *
  go_enter Tryz.func70, Tryz.ntmps70
  go_wp2_with fail
  refine (C1.out _ Q.out.1).mono ?_
  rintro e w1 ⟨rfl, b1⟩
  replace Q := Lib.hid (Q.out.after b1)
  clear b1
  obtain ⟨p0, p1, p2, p3, p4⟩ := Q.out.2.1.cells
  obtain ⟨z0, z1, z2, z3, z4, z5⟩ := Q.out.2.2.cells
  have k1 := Q.out.2.1.lt
  have k2 := Q.out.2.2.lt
  go_wp2_with fail
  go_ret2
  exact ⟨rfl, Q.out.1⟩
theorem m11_value (w : World) (g : Nat) (S : MS) (H : Nat → Prop) (x : Ins) (v : Wh) (h : (sysX g S).R w H) (hr : RegOk x) (hx : x.ok) (hv : 0 ≤ v.size ∧ v.size ≤ 16) (hl : v.kind = 3 → S.at_ + 1 < S.l.length) (hi : v.kind = 4 → 0 ≤ x.imm) :
    Calls Tryz.prog 70 #[.pointer (some ⟨g, 0, none⟩), iV x, whV v] w (Gives (.tuple #[.int .u64 (mValue S x v).1, .int .i64 (mValue S x v).2]) w) := by
  unfold mValue
  cases h1 : (v.kind == 1)
  · rw [if_neg Bool.false_ne_true]
    cases h2 : (v.kind == 2)
    · rw [if_neg Bool.false_ne_true]
      cases h3 : (v.kind == 3)
      · rw [if_neg Bool.false_ne_true]
        cases h4 : (v.kind == 4)
        · rw [if_neg Bool.false_ne_true]
          exact m11_value_load w g S H x v h hr hx hv h1 h2 h3 h4
        · rw [if_pos rfl]
          exact m11_value_table w g S H x v h h1 h2 h3 h4 hx (hi (by simpa using h4))
      · rw [if_pos rfl]
        exact m11_value_long w g S H x v h h1 h2 h3 (hl (by simpa using h3))
    · rw [if_pos rfl]
      exact m11_value_swap w g S H x v h hr h1 h2 hv
  · rw [if_pos rfl]
    exact m11_value_arith w g S H x v h hr hx h1
end Go.Proofs.YtlbhffdpklbhfaaGreat
namespace Go.Proofs.YtlbhffdpklbhfaaGreat
open Go.RowKit
set_option linter.unusedVariables false
def pairOf : List (Int × Int) → Int → Int × Bool
  | [], _ => (0, false)
  | p :: l, op => if p.1 = op then (p.2, true) else if p.2 = op then (p.1, true) else pairOf l op
theorem pairOf_step (l : List (Int × Int)) (op : Int) (j : Nat) (h : j < l.length) :
    pairOf (l.drop j) op = if (l.getD j (0, 0)).1 = op then ((l.getD j (0, 0)).2, true) else if (l.getD j (0, 0)).2 = op then ((l.getD j (0, 0)).1, true) else pairOf (l.drop (j + 1)) op := by
  rw [List.drop_eq_getElem_cons h]
  simp only [pairOf, List.getD_eq_getElem?_getD, List.getElem?_eq_getElem h, Option.getD_some]
set_option maxHeartbeats 1000000 in
theorem partner_any (l : List (Int × Int)) (b : Nat) (op : Int) (w : World) (hl : l.length ≤ 100)
    (hc : ∀ k, k < l.length → w.cell? ⟨b, k * 2, none⟩ = some (.int .u8 (l.getD k (0, 0)).1) ∧ w.cell? ⟨b, k * 2 + 1, none⟩ = some (.int .u8 (l.getD k (0, 0)).2)) (hb : b < w.heap.size) :
    Calls Tryz.prog 184 #[.int .u8 op, .slice (some ⟨b, 0, none⟩) l.length l.length] w
      fun e w' => e = .returned (.tuple #[.int .u8 (pairOf l op).1, .bool (pairOf l op).2]) ∧ Below w.heap.size w w' := by
  have HC := Lib.hid hc
  clear hc
  go_enter Tryz.func184, Tryz.ntmps184
  go_wp2_with fail
  go_loopw [10] (fun i wr => ∃ j : Nat, j ≤ l.length ∧ i = .int .i64 j ∧ pairOf (l.drop j) op = pairOf l op ∧ Below w.heap.size w wr) (fun i wr => l.length - (intOf i).toNat)
  case atStart => exact ⟨0, by omega, rfl, rfl, Below.refl _ _⟩
  case round =>
    obtain ⟨j, hj, rfl, hp, hbw⟩ := hrel
    by_cases hlt : (j : Int) < l.length
    · obtain ⟨c1, c2⟩ := HC.out j (by omega)
      have hs := pairOf_step l op j (by omega)
      rw [hp] at hs
      generalize hg : l.getD j (0, 0) = p at *
      obtain ⟨x, y⟩ := p
      have d1 : wr.cell? ⟨b, j * 2, none⟩ = some (.int .u8 x) := (hbw.cell (p := ⟨b, j * 2, none⟩) hb).trans c1
      have d2 : wr.cell? ⟨b, j * 2 + 1, none⟩ = some (.int .u8 y) := (hbw.cell (p := ⟨b, j * 2 + 1, none⟩) hb).trans c2
      clear c1 c2 hg
      by_cases h1 : x = op
      · have HE : Hid (pairOf l op = (y, true)) := Lib.hid (by rw [hs, if_pos h1])
        clear hs hp
        subst h1
        go_wp2_with fail
        go_ret2
        exact ⟨by rw [HE.out]; rfl, hbw.alloc hbw.size _⟩
      · by_cases h2 : y = op
        · have HE : Hid (pairOf l op = (x, true)) := Lib.hid (by rw [hs, if_neg h1, if_pos h2])
          clear hs hp
          subst h2
          go_wp2_with fail
          go_ret2
          exact ⟨by rw [HE.out]; rfl, hbw.alloc hbw.size _⟩
        · have HE : Hid (pairOf (l.drop (j + 1)) op = pairOf l op) := Lib.hid (by rw [hs, if_neg h1, if_neg h2])
          clear hs hp
          go_wp2_with fail
          go_round
          case rel => exact ⟨j + 1, by omega, by go_num, HE.out, hbw.alloc hbw.size _⟩
          case measure => simp [intOf]; omega
    · have hj2 : j = l.length := by omega
      have hz : pairOf l op = (0, false) := by rw [← hp, hj2, List.drop_length]; rfl
      have HZ := Lib.hid hz
      clear hz hj2 hp
      go_wp2_with fail
      go_ret2
      exact ⟨by rw [HZ.out]; rfl, hbw⟩
def turnPairs : List (Int × Int) := [(16, 16), (80, 80), (64, 64), (32, 160), (48, 176), (96, 192), (112, 208)]
def Paired (l : List (Int × Int)) (op : Int) (w : World) (e : Ending) (w' : World) : Prop := e = .returned (.tuple #[.int .u8 (pairOf l op).1, .bool (pairOf l op).2]) ∧ Below w.heap.size w w'
theorem cells_at (w : World) (l : List (Int × Int)) (cs : Array Value) (t : TypeId) (h : ∀ k, k < l.length → cs[k * 2]? = some (.int .u8 (l.getD k (0, 0)).1) ∧ cs[k * 2 + 1]? = some (.int .u8 (l.getD k (0, 0)).2)) :
    ∀ k, k < l.length → (w.alloc (.cells cs t)).cell? ⟨w.heap.size, k * 2, none⟩ = some (.int .u8 (l.getD k (0, 0)).1) ∧ (w.alloc (.cells cs t)).cell? ⟨w.heap.size, k * 2 + 1, none⟩ = some (.int .u8 (l.getD k (0, 0)).2) := by
  intro k hk
  rw [World.cell?_alloc_new, World.cell?_alloc_new]
  exact h k hk
theorem turned_any (op : Int) (w : World) : Calls Tryz.prog 155 #[.int .u8 op] w (Paired turnPairs op w) := by
  have hp := Lib.hid (partner_any turnPairs w.heap.size op (w.alloc (.cells #[.int .u8 16, .int .u8 16, .int .u8 80, .int .u8 80, .int .u8 64, .int .u8 64, .int .u8 32, .int .u8 160, .int .u8 48, .int .u8 176, .int .u8 96, .int .u8 192, .int .u8 112, .int .u8 208] 230)) (by decide)
    (cells_at w turnPairs _ _ (by
      intro k hk
      change k < 7 at hk
      have h : k = 0 ∨ k = 1 ∨ k = 2 ∨ k = 3 ∨ k = 4 ∨ k = 5 ∨ k = 6 := by omega
      rcases h with rfl | rfl | rfl | rfl | rfl | rfl | rfl <;> exact ⟨rfl, rfl⟩)) (by simp))
  go_enter Tryz.func155, Tryz.ntmps155
  go_wp2_with fail
  refine (hp.out).mono ?_
  rintro e w1 ⟨rfl, hb⟩
  go_wp2_with fail
  go_ret2
  exact ⟨rfl, below_next ((Below.refl _ _).alloc (Nat.le_refl _) _) (by simp) hb⟩
end Go.Proofs.YtlbhffdpklbhfaaGreat
