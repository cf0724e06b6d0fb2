/-
  Texts, one behind the other: MachNil, MachShown, MachineNil, Frame, Base, MachineNilLaw.
  Conditions: those that each theorem states.
-/
import Derived.Test.YtfniahmfoigceaaGreatPz52
import Derived.Test.YtfniahmfoigceaaGreatPz47
import Derived.WalkKit
import Derived.ProofKit
import Derived.OpenShut
import Derived.ChangeOld
import Derived.Below
import Derived.Carry
import Derived.Test.YtfniahmfoigceaaGreatRows
import Derived.Deep.Slices
import Derived.ChangeSlices
import Derived.Test.YtfniahmfoigceaaGreatPz1

namespace Go.Proofs.YtfniahmfoigceaaGreat
open Go.RowKit
set_option maxRecDepth 100000
set_option linter.unusedVariables false
set_option linter.unusedSimpArgs false

theorem m11_isNone_nil (w : World) : Calls Tryz.prog 35 #[.pointer none] w (Gives (.bool true) w) := by
  go_enter Tryz.func35, Tryz.ntmps35
  go_wp2_with fail
  go_ret
  exact ⟨rfl, Below.refl _ _⟩
theorem m11_Step_nil (w : World) : Calls Tryz.prog 13 #[.pointer none] w (Gives (.int .i64 2) w) := by
  have C := Lib.hid (m11_isNone_nil w)
  go_enter Tryz.func13, Tryz.ntmps13
  go_wp2_with fail
  refine (C.out).mono ?_
  rintro e w1 ⟨rfl, b1⟩
  have B := Lib.hid b1
  clear b1
  go_wp2_with fail
  go_ret
  exact ⟨rfl, B.out⟩
theorem m11_Reg_nil (i : Int) (w : World) : Calls Tryz.prog 17 #[.pointer none, .int .i64 i] w (Gives (.tuple #[.int .u64 0, .bool false]) w) := by
  go_enter Tryz.func17, Tryz.ntmps17
  go_wp2_with fail
  go_ret2
  exact ⟨rfl, Below.refl _ _⟩
theorem m11_At_nil (w : World) : Calls Tryz.prog 15 #[.pointer none] w (Gives (.int .i64 0) w) := by
  go_enter Tryz.func15, Tryz.ntmps15
  go_wp2_with fail
  go_ret
  exact ⟨rfl, Below.refl _ _⟩
theorem m11_Over_nil (w : World) : Calls Tryz.prog 16 #[.pointer none] w (Gives (.bool false) w) := by
  go_enter Tryz.func16, Tryz.ntmps16
  go_wp2_with fail
  go_ret
  exact ⟨rfl, Below.refl _ _⟩
theorem m11_Run_nil (n : Int) (w : World) : Calls Tryz.prog 18 #[.pointer none, .int .i64 n] w (Gives (.agg #[.int .i64 2, .int .i64 0, .int .u64 0, .int .i64 0, .slice none 0 0, .slice none 0 0]) w) := by
  have C := Lib.hid fun u => m11_isNone_nil u
  have b0 := below_alloc (Below.refl w.heap.size w) (.cells #[.int .i64 0, .int .i64 0, .int .u64 0, .int .i64 0, .slice none 0 0, .slice none 0 0] 54)
  have bg := Blk.new w #[.int .i64 0, .int .i64 0, .int .u64 0, .int .i64 0, .slice none 0 0, .slice none 0 0] 54 (g := w.heap.size) rfl
  have Q := Lib.hid (And.intro b0 bg)
  clear b0 bg
  go_enter Tryz.func18, Tryz.ntmps18
  go_wp2_with fail
  refine (C.out _).mono ?_
  rintro e w1 ⟨rfl, b1⟩
  replace Q := Lib.hid (And.intro (below_next' Q.out.1 b1) (Q.out.2.after b1))
  clear b1
  obtain ⟨⟨x0, x1, x2, x3, x4, x5⟩, f0, f1, f2, f3, f4, f5⟩ := Blk.six Q.out.2
  go_wp2_with fail
  have Z6 := six_blk Q.out.2 (.int .i64 2) (.int .i64 0) (.int .u64 0) (.int .i64 0) (.slice none 0 0) (.slice none 0 0)
  have ZB := six_below Q.out.1 (Nat.le_refl w.heap.size) (.int .i64 2) (.int .i64 0) (.int .u64 0) (.int .i64 0) (.slice none 0 0) (.slice none 0 0)
  obtain ⟨⟨r0, r1, r2, r3, r4, r5⟩, -⟩ := Blk.six Z6
  unfold six at r0 r1 r2 r3 r4 r5 ZB
  exact bodyPost_ret (v := .agg #[.int .i64 2, .int .i64 0, .int .u64 0, .int .i64 0, .slice none 0 0, .slice none 0 0]) (by simp [results, Tryz.results18, go_sem, r0, r1, r2, r3, r4, r5]) rfl ⟨rfl, ZB⟩
theorem ins_new (w : World) (l : List Ins) : InsS (w.alloc (.cells (inC l).toArray 64)) (some ⟨w.heap.size, 0, none⟩) l := fun h0 => by
  have hB := Blk.new w (inC l).toArray 64 (g := w.heap.size) rfl
  have hc : ∀ k, k < l.length → ∀ r, r < 5 → (w.alloc (.cells (inC l).toArray 64)).cell? ⟨w.heap.size, 0 + k * 5 + r, none⟩ = (cI (iAt l k))[r]? := fun k hk r hr => by
    rw [hB.cell, List.getElem?_toArray, Nat.zero_add, inC_at l k r hk hr]
  exact ⟨w.heap.size, 0, rfl, hB.lt, fun k hk => ⟨hc k hk 0 (by omega), hc k hk 1 (by omega), hc k hk 2 (by omega), hc k hk 3 (by omega), hc k hk 4 (by omega)⟩⟩
/-- A new machine may go. -/
theorem new_can {l : List Ins} {ctx : List Int} {D : List Df} {L : List IR} {dr : List Int} {S : MS} (hL : ∀ k, k < L.length → IrOk (irAt L k)) (h : mNew l ctx D (itLs L) dr = some S) : S.can ∧ S.steps = 0 ∧ S.calls = [] ∧ S.over = false ∧ S.D = D ∧ S.dr = dr := by
  have hLl : (itLs L).length = L.length := by unfold itLs; rw [List.length_map]
  unfold mNew at h
  split at h
  · rename_i hq
    simp only [Bool.and_eq_true, beq_iff_eq, decide_eq_true_eq] at hq
    unfold mMade at h
    split at h
    · cases h
    · rename_i T hT
      split at h
      · have e := (Option.some.inj h).symm
        subst e
        have hr : tRight D = true := by
          cases h : tRight D
          · unfold tNew at hT
            rw [h, if_neg Bool.false_ne_true] at hT
            cases hT
          · rfl
        have e : tNew (memM ctx) D = tNewG 0 D (memM ctx) [] := by unfold tNew; rw [hr, if_pos rfl]
        unfold tRight at hr
        simp only [Bool.and_eq_true, List.all_eq_true, decide_eq_true_eq] at hr
        have hlen := newM_len D 0 (memM ctx) [] hr.1
        have s2 := (fill_same (itLs L) 0 T (tNew (memM ctx) D).1 (itLs_short hL)).2
        rw [← e] at hlen
        have hm : (memM ctx).length = 2 := rfl
        refine ⟨fun _ => ⟨Nat.le_refl _, ?_⟩, rfl, rfl, rfl, rfl, rfl⟩
        show (mFill 0 (itLs L) T (tNew (memM ctx) D).1).2.1.length ≤ 20000 + 0
        omega
      · cases h
  · cases h
def ev0 : EV := ⟨[], none, 0, [], none, 0, [], none, 0, [], none, 0⟩
theorem ev0_ok : ev0.ok := ⟨⟨fun k hk => absurd hk (by simp [ev0]), Nat.le_refl _, Nat.zero_le _⟩, ⟨Nat.le_refl _, Nat.zero_le _⟩, ⟨fun k hk => absurd hk (by simp [ev0]), Nat.le_refl _, Nat.zero_le _⟩, ⟨fun k hk => absurd hk (by simp [ev0]), Nat.zero_le _, Nat.le_refl _, Nat.zero_le _⟩⟩
theorem ev0_s (w : World) : EnvS w ev0 := ⟨fun h => absurd h (by simp [ev0]), fun h => absurd h (by simp [ev0]), fun h => absurd h (by simp [ev0]), fun h => absurd h (by simp [ev0])⟩
def sh1 : List Ins := [⟨183, 0, 0, 0, 7⟩, ⟨149, 0, 0, 0, 0⟩]
def sh2 : List Ins := [⟨149, 0, 0, 0, 0⟩]
def shF (S : MS) : Int × Int × Nat × Nat := (mCode (pRun 10 S), mR0 (pRun 10 S), (pRun 10 S).steps, (pRun 10 S).at_)
theorem sh1_runs : (mNew sh1 [] [] [] []).map shF = some (0, 7, 2, 1) := by kernel_rfl
theorem sh2_runs : (mNew sh2 [] [] [] []).map shF = some (110, 0, 0, 0) := by kernel_rfl

end Go.Proofs.YtfniahmfoigceaaGreat

namespace Go.Proofs.YtfniahmfoigceaaGreat
open Go.RowKit
set_option maxRecDepth 100000
set_option linter.unusedVariables false
set_option linter.unusedSimpArgs false

theorem shF_of {o : Option MS} {a b : Int} {c d : Nat} (h : o.map shF = some (a, b, c, d)) : ∃ S, o = some S ∧ mCode (pRun 10 S) = a ∧ mR0 (pRun 10 S) = b ∧ (pRun 10 S).steps = c ∧ (pRun 10 S).at_ = d := by
  cases o with
  | none => cases h
  | some S =>
    simp only [Option.map_some, Option.some.injEq, shF, Prod.mk.injEq] at h
    exact ⟨S, rfl, h.1, h.2.1, h.2.2.1, h.2.2.2⟩
theorem sh1_all : OkAll sh1 := by
  intro k hk
  have : k = 0 ∨ k = 1 := by simp [sh1] at hk; omega
  rcases this with rfl | rfl <;> (unfold Ins.ok sh1 iAt; decide)
theorem sh2_all : OkAll sh2 := by
  intro k hk
  have : k = 0 := by simp [sh2] at hk; omega
  subst this
  unfold Ins.ok sh2 iAt; decide
/-- Two machines, one of them run. -/
theorem two_keep {u u' : World} {S : MS} {g2 : Nat} {F F2 : Nat → Prop} (h : (sysX g2 S).R u F2) (t : Turn F u u') (d : ∀ x, F2 x → ¬ F x) : (sysX g2 S).R u' F2 := (sysX g2 S).keep h fun x hx => t.block x ((sysX g2 S).lt h hx) (d x hx)
set_option maxHeartbeats 8000000 in
theorem l11_shown (w : World) : Calls Tryz.prog 8 #[] w (Gives (.bool true) w) := by
  obtain ⟨S1, n1, a1, a2, a3, a4⟩ := shF_of sh1_runs
  obtain ⟨S2, n2, b1, b2, b3, b4⟩ := shF_of sh2_runs
  obtain ⟨c1, c2, -⟩ := new_can (L := []) (fun k hk => absurd hk (by simp)) n1
  obtain ⟨d1, d2, -⟩ := new_can (L := []) (fun k hk => absurd hk (by simp)) n2
  have N1 := Lib.hid fun u A (h : InsS u A sh1) => m11_New u sh1 A 2 ev0 h sh1_all (by simp [sh1]) (by simp [sh1]) (by unfold maxLen; omega) (ev0_s u) ev0_ok
  have N2 := Lib.hid fun u A (h : InsS u A sh2) => m11_New u sh2 A 1 ev0 h sh2_all (by simp [sh2]) (by simp [sh2]) (by unfold maxLen; omega) (ev0_s u) ev0_ok
  rw [show mNew sh1 ev0.ctx ev0.D (itLs ev0.L) ev0.dr = some S1 from n1] at N1
  rw [show mNew sh2 ev0.ctx ev0.D (itLs ev0.L) ev0.dr = some S2 from n2] at N2
  have R1 := Lib.hid fun u g F (h : (sysX g S1).R u F) => m11_Run u g S1 F 10 h c1 (by omega) (by omega)
  have R2 := Lib.hid fun u g F (h : (sysX g S2).R u F) => m11_Run u g S2 F 10 h d1 (by omega) (by omega)
  unfold RunQ endV at R1 R2
  rw [a1, a2, a3, a4] at R1
  rw [b1, b2, b3, b4] at R2
  have I1 := Lib.hid fun u => ins_new u sh1
  have I2 := Lib.hid fun u => ins_new u sh2
  clear n1 n2 a1 a2 a3 a4 b1 b2 b3 b4 c1 c2 d1 d2
  generalize pRun 10 S1 = Q1 at *
  generalize pRun 10 S2 = Q2 at *
  have B0 := Lib.hid (Below.refl w.heap.size w)
  go_enter Tryz.func8, Tryz.ntmps8
  go_wp2_with fail
  refine (N1.out _ _ (I1.out w)).mono ?_
  rintro e w2 ⟨g1, F1, rfl, r1, b1, f1⟩
  have B1 := Lib.hid (below_next' (below_alloc (Below.refl w.heap.size w) _) b1)
  have FL1 : Hid ((∀ x, F1 x → w.heap.size ≤ x) ∧ ∀ x, F1 x → x < w2.heap.size) := Lib.hid ⟨fun x hx => Nat.le_trans (by simp) (f1 x hx), fun x hx => (sysX g1 S1).lt r1 hx⟩
  have X1 := Lib.hid r1
  clear r1 b1 f1 N1 I1 B0
  go_wp2_with fail
  refine (N2.out _ _ (I2.out w2)).mono ?_
  rintro e w3 ⟨g2, F2, rfl, r2, b2, f2⟩
  have b2' := below_next' (below_alloc (Below.refl w2.heap.size w2) _) b2
  have B2 := Lib.hid (below_next' B1.out b2')
  have FL2 : Hid ((∀ x, F2 x → w.heap.size ≤ x) ∧ ∀ x, F2 x → ¬ F1 x) := Lib.hid ⟨fun x hx => Nat.le_trans B1.out.size (Nat.le_trans (by simp) (f2 x hx)), fun x hx hx1 => by
    have q1 := FL1.out.2 x hx1
    have q2 : w2.heap.size ≤ x := Nat.le_trans (by simp) (f2 x hx)
    omega⟩
  have X2 := Lib.hid r2
  have C1 := Lib.hid (R1.out w3 g1 F1 ((sysX g1 S1).after X1.out b2'))
  clear r2 b2 b2' f2 N2 I2 X1 B1 R1
  go_wp2_with fail
  refine (C1.out).mono ?_
  rintro e w4 ⟨F3, N3, va, ca, vm, cm, L, Ls, rfl, r3, t3, f3, -, -⟩
  have B3 := Lib.hid (Turn.on B2.out t3 B2.out.size FL1.out.1)
  have C2 := Lib.hid (R2.out w4 g2 F2 (two_keep X2.out t3 FL2.out.2))
  clear r3 t3 f3 C1 R2 X2 B2
  go_wp2_with fail
  refine (C2.out).mono ?_
  rintro e w5 ⟨F4, N4, vb, cb, vn, cn, L4, Ls4, rfl, r4, t4, f4, -, -⟩
  have B4 := Lib.hid (Turn.on B3.out t4 B3.out.size FL2.out.1)
  clear r4 t4 f4 C2 B3
  go_wp2_with fail
  go_ret
  exact ⟨rfl, below_alloc (below_alloc B4.out _) _⟩

end Go.Proofs.YtfniahmfoigceaaGreat

namespace Go.Proofs.YtfniahmfoigceaaGreat
open Go.RowKit
set_option maxRecDepth 100000
set_option linter.unusedVariables false
set_option linter.unusedSimpArgs false

set_option maxHeartbeats 4000000 in
theorem l11_MachineNil (i n : Int) (w : World) : Calls Tryz.prog 6 #[.int .i64 i, .int .i64 n] w (Gives (.bool true) w) := by
  have S := Lib.hid (l11_shown w)
  have C1 := Lib.hid fun u => m11_Reg_nil i u
  have C2 := Lib.hid fun u => m11_Step_nil u
  have C3 := Lib.hid fun u => m11_Run_nil n u
  have C4 := Lib.hid fun u => m11_At_nil u
  have C5 := Lib.hid fun u => m11_Over_nil u
  have FI : ∀ u, (Instr.field 54 (.agg #[.int .i64 2, .int .i64 0, .int .u64 0, .int .i64 0, .slice none 0 0, .slice none 0 0]) 0).run Tryz.prog u = .ok (.int .i64 2) u := fun _ => rfl
  go_enter Tryz.func6, Tryz.ntmps6
  go_wp2_with fail
  refine (S.out).mono ?_
  rintro e w1 ⟨rfl, b1⟩
  have B := Lib.hid b1
  clear b1 S
  go_wp2_with fail
  refine (C1.out _).mono ?_
  rintro e w2 ⟨rfl, b1⟩
  replace B := Lib.hid (below_next' B.out b1)
  clear b1
  go_wp2_with fail
  refine (C2.out _).mono ?_
  rintro e w3 ⟨rfl, b1⟩
  replace B := Lib.hid (below_next' B.out b1)
  clear b1
  go_wp2_with fail
  refine (C3.out _).mono ?_
  rintro e w4 ⟨rfl, b1⟩
  replace B := Lib.hid (below_next' B.out b1)
  clear b1
  go_wp2_with fail
  refine (C4.out _).mono ?_
  rintro e w5 ⟨rfl, b1⟩
  replace B := Lib.hid (below_next' B.out b1)
  clear b1
  go_wp2_with fail
  refine (C5.out _).mono ?_
  rintro e w6 ⟨rfl, b1⟩
  replace B := Lib.hid (below_next' B.out b1)
  clear b1
  go_wp2_with fail
  go_ret
  exact ⟨rfl, B.out⟩

end Go.Proofs.YtfniahmfoigceaaGreat

namespace Go.Proofs.YtfniahmfoigceaaGreat
open Go.ChangeShapes Go.WideShapes Go.ChangeAt Go.RowKit

section
variable {H : Type} {enc : TypeId × Value → H}

/-- All arguments read behind the call as they did, if below the heap's old size nothing has turned. -/
theorem below_trodAll {P : Program} (hl : laidOutB P = true) {W W' : World} (hb : Below W.heap.size W W') :
    ∀ (ts : List TypeId) (vs : List Value) (ds : List (DataW H)) (ps : List MemPlace),
      (ts.all fun t => P.readableRec t && decide (t < P.types.size)) = true →
      DataW.TrodAll enc P W 0 (fun _ => true) true ts vs ds ps →
      DataW.TrodAll enc P W' 0 (fun b => decide (b < W.heap.size)) true ts vs ds ps := by
  intro ts
  induction ts with
  | nil =>
    intro vs ds ps _ h
    cases vs with
    | nil =>
      cases ds with
      | nil => simpa [DataW.TrodAll] using h
      | cons d ds => simp [DataW.TrodAll] at h
    | cons v vs => simp [DataW.TrodAll] at h
  | cons t ts ih =>
    intro vs ds ps hr h
    simp only [List.all_cons, Bool.and_eq_true, decide_eq_true_eq] at hr
    obtain ⟨v, vs', d, ds', p, q, rfl, rfl, rfl, h1, h2⟩ := trodAll_cons h
    have hlt : ∀ x ∈ p, x.block < W.heap.size := by
      obtain ⟨m, hm⟩ := h1
      exact DataW.trod_lt m _ _ _ hm
    exact trodAll_cons_mk (Below.trod hl hr.1.1 hr.1.2 h1 hb hlt) (ih _ _ _ hr.2 h2)

theorem trodAll_length {P : Program} {w : World} {base : Nat} {spare : Nat → Bool} {held : Bool} : ∀ (ts : List TypeId) (vs : List Value) (ds : List (DataW H)) (ps : List MemPlace),
    DataW.TrodAll enc P w base spare held ts vs ds ps → ds.length = ts.length := by
  intro ts
  induction ts with
  | nil =>
    intro vs ds ps h
    cases vs with
    | nil =>
      cases ds with
      | nil => rfl
      | cons d ds => simp [DataW.TrodAll] at h
    | cons v vs => simp [DataW.TrodAll] at h
  | cons t ts ih =>
    intro vs ds ps h
    obtain ⟨v, vs', d, ds', p, q, rfl, rfl, rfl, _, h2⟩ := trodAll_cons h
    simp [ih _ _ _ h2]

/-- The row's step, for a law of whatever number of arguments. -/
theorem law_lifted {C : Checked} {os : Os} {f : FuncId} {fn : Func} {s : ChangeSpec} {conds : List PathCond} {b : TypeId}
    (own : ownKnob C.prog.godebug = none) (started : os.Started) (noInit : C.prog.inits.idxOf? f = none) (hfn : C.prog.funcs[f]? = some fn)
    (witness : ∃ (w : World) (tape : Tape) (i : Input), w.os = os ∧ (w.forCall tape i).Shaped C.prog ∧ i.vars = [] ∧ Input.okWide C.prog (w.forCall tape i) .any w.heap.size f i ∧
      s.pre6 enc C.prog fn conds false (w.forCall tape i).memory i.args ∧ ({} : Assume).holds C.prog (lone (Frame.enter C.prog f i.args .normal) [] (w.forCall tape i)))
    (hl : laidOutB C.prog = true) (hvars : s.vars = []) (hres : fn.resultTypes = #[b]) (hb : C.prog.underlying b = some .bool)
    (hread : (fn.params.toList.all fun t => C.prog.readableRec t && decide (t < C.prog.types.size)) = true)
    (hspec : ∀ ds : List (DataW H), ds.length = fn.params.size → s.fn H ds = { results := [.lit (.bool true)], args := ds, vars := [] })
    (walk : ∀ (W : World) (base : Nat) (args : Array Value) (ds : List (DataW H)) (p : List MemPlace),
      (∀ (j : Nat) t v, fn.params[j]? = some t → args[j]? = some v → Value.okWide C.prog W .any base t v) →
      DataW.TrodAll enc C.prog W 0 (fun _ => true) true fn.params.toList args.toList ds p →
      Calls C.prog f args W fun e W' => e = .returned (.bool true) ∧ Below W.heap.size W W') :
    ReturnsInHanded {} C os f .any (s.pre6 enc C.prog fn conds false) (s.post enc C.prog fn false true false false) := by
  refine returnsInHanded_of_change own started noInit hfn witness ?_
  intro W base args ds gs before hval hW _ _
  have hW' := hW
  obtain ⟨p, q, hA, hV, rfl, _, _⟩ := hW
  rw [hvars] at hV
  obtain ⟨rfl, rfl⟩ := trodVars_none hV
  refine (walk W base args ds p hval hA).mono fun e W' ⟨he, bel⟩ => ?_
  have hlen : ds.length = fn.params.size := by simpa using trodAll_length _ _ _ _ hA
  have hsp := hspec ds hlen
  refine ⟨_, he, ds, [], _, [], p, [], hW', ?_, ?_, ?_, bel.frame _, fun h => by cases h⟩
  · rw [List.append_nil, hsp, hres]
    exact trodAll_mk1 (shut_bool hb _)
  · rw [List.append_nil, hsp]
    exact below_trodAll hl bel _ _ _ _ hread hA
  · rw [List.append_nil, hsp, hvars]
    rfl
end

end Go.Proofs.YtfniahmfoigceaaGreat

namespace Go.Proofs.YtfniahmfoigceaaGreat
open Go.ChangeShapes Go.WideShapes Go.RowKit
set_option linter.unusedVariables false

theorem own_none : ownKnob Tryz.prog.godebug = none := by kernel_rfl
theorem laid_out : laidOutB Tryz.prog = true := by kernel_rfl

section
variable {H : Type} {enc : TypeId × Value → H} {P : Program} {w : World} {base : Nat} {spare : Nat → Bool} {held : Bool}
end

end Go.Proofs.YtfniahmfoigceaaGreat

namespace Go.Proofs.YtfniahmfoigceaaGreat
open Go.ChangeShapes Go.WideShapes Go.ChangeAt Go.RowKit
set_option linter.unusedVariables false

set_option maxRecDepth 100000 in
theorem mnil_lifted (os : Os) (started : os.Started) (H : Type) (enc : TypeId × Value → H) :
    ReturnsInHanded {} Tryz.checked os 6 .any (Rows.machineNilSpec.pre6 enc Tryz.prog Tryz.f6 Rows.machineNilRow.domain false) (Rows.machineNilSpec.post enc Tryz.prog Tryz.f6 false true false false) := by
  refine law_lifted (C := Tryz.checked) own_none started (by kernel_rfl) Tryz.func6
    (ChangeSpec.witness6 (enc := enc) (C := Tryz.checked) false ⟨#[], #[.int .i64 0, .int .i64 0], []⟩ 8 (by kernel_rfl) (by kernel_rfl) (by kernel_rfl) (by kernel_rfl))
    laid_out rfl rfl Tryz.underlying4 (by kernel_rfl) (fun ds hd => by match ds, hd with | [d1, d2], _ => rfl) ?_
  intro W base args ds p hval hA
  rw [Tryz.params6] at hval hA
  obtain ⟨v0, v1, d0, d1, p0, p1, rfl, rfl, rfl, h0, h1⟩ := trodAll_two hA
  obtain ⟨i, rfl, _, _, wi⟩ := open_int Tryz.underlying3 (hval 0 _ _ rfl rfl) h0
  obtain ⟨n, rfl, _, _, wn⟩ := open_int Tryz.underlying3 (hval 1 _ _ rfl rfl) h1
  exact l11_MachineNil i n W

theorem mnil_holds : Rows.MachineNilSaid :=
  OpenClaim.holds_of_wide 6 Tryz.f6 rfl rfl rfl rfl rfl rfl rfl ⟨rfl, rfl, rfl, rfl, rfl⟩ rfl rfl rfl rfl rfl (by kernel_rfl) Tryz.func6 (by kernel_rfl)
    (of_decide_eq_true (by kernel_rfl)) (by unfold Func.isWrapper; first | (rw [if_pos (by decide +kernel)]; kernel_rfl) | (rw [if_neg (by decide +kernel)]; exact ⟨rfl, rfl⟩))
    (fun os started H enc _ => mnil_lifted os started H enc)

#print axioms mnil_holds
end Go.Proofs.YtfniahmfoigceaaGreat
