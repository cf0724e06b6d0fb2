/-
  Texts, one behind the other: MachMap, Mem4N.
  Conditions: those that each theorem states.
-/
import Derived.StillTailTactics
import Derived.Test.YtlbhffdpklbhfaaGreatPz27
import Derived.Test.YtlbhffdpklbhfaaGreatPz8
import Derived.Test.YtlbhffdpklbhfaaGreatPz9
namespace Go.Proofs.YtlbhffdpklbhfaaGreat
open Go.RowKit
set_option maxRecDepth 100000
set_option linter.unusedVariables false
set_option linter.unusedSimpArgs false
section
variable {w : World} {gt gm : Nat} {T : TT} {M : PM} {H : Nat → Prop}
theorem ot_Store (at_ s n : Int) (h : (sysT gt gm T M).R w H) (ha : 0 ≤ at_ ∧ at_ ≤ 18446744073709551615) (hn : 0 ≤ n ∧ n ≤ 18446744073709551615) :
    Calls Tryz.prog 112 #[.pointer (some ⟨gm, 0, none⟩), .int .u64 at_, .int .i64 s, .int .u64 n] w (fun e w' => e = .returned (.int .i64 (pStore M at_ s n).2) ∧ Tn (sysT gt gm T (pStore M at_ s n).1) H w w') := by
  obtain ⟨F, G, hD, hH⟩ := h
  refine (c8_Store w gm M G at_ s n hD.mem ha hn).mono ?_
  rintro e w' ⟨he, G', h1, h2, h3⟩
  refine ⟨he, fun x => F x ∨ G' x, ⟨F, G', ⟨hD.maps.turn h2 (fun x hF hG => hD.apart x hF hG), h1, fun x hx hG => ?_⟩, fun x => Iff.rfl⟩, h2.mono (fun x hx => .inl ((hH x).2 (.inr hx))), fun x hx => ?_⟩
  · rcases h3 x hG with c | c
    · exact hD.apart x hx c
    · have := hD.maps.lt hx; omega
  · rcases hx with c | c
    · exact .inl ((hH x).2 (.inl c))
    · exact (h3 x c).imp (fun d => (hH x).2 (.inr d)) id
theorem ot_Put (i : Int) (key val : List Int) (C D : Option Addr) (n d m c : Nat) (fl : Int) (h : (sysT gt gm T M).R w H) (hT1 : T.length ≤ 1000) (hk : Keep H w C key) (hok : OkB key) (hn : key.length = n) (hnd : n ≤ d) (hdm : d ≤ maxLen) (hv : Keep H w D val) (hov : OkB val) (hvn : val.length = m) (hmc : m ≤ c) (hcm : c ≤ maxLen) (hfl : 0 ≤ fl ∧ fl ≤ 18446744073709551615) (hM : M.length ≤ 100000) :
    Calls Tryz.prog 51 #[.pointer (some ⟨gt, 0, none⟩), .int .i64 i, .slice C n d, .slice D m c, .int .u64 fl] w (fun e w' => e = .returned (.tuple #[.int .u64 (tPut T M i key val fl).n, .int .i64 (tPut T M i key val fl).e]) ∧ Tn (sysT gt gm (tPut T M i key val fl).T (tPut T M i key val fl).M) H w w') := by
  obtain ⟨F, G, hD, hH⟩ := h
  have kk : ∀ {C : Option Addr} {x : List Int}, Keep H w C x → Keep (fun x => F x ∨ G x) w C x := fun hm u t => hm u (t.mono fun x hx => .inl ((hH x).2 hx))
  refine (q9_Put w gt gm T M F G i key val C D n d m c fl hD hT1 (kk hk) hok hn hnd hdm (kk hv) hov hvn hmc hcm hfl hM).mono ?_
  rintro e w' ⟨he, F', G', h1, h2, h3, h4⟩
  refine ⟨he, fun x => F' x ∨ G' x, ⟨F', G', h1, fun x => Iff.rfl⟩, h2.mono (fun x hx => .inl ((hH x).2 hx)), fun x hx => ?_⟩
  rcases hx with c | c
  · exact (h3 x c).imp (fun d => (hH x).2 (.inl d)) id
  · exact (h4 x c).imp (fun d => (hH x).2 (.inr d)) id
theorem ot_Drop (i : Int) (key : List Int) (C : Option Addr) (n d : Nat) (h : (sysT gt gm T M).R w H) (hT1 : T.length ≤ 1000) (hk : BytS w C key) (hok : OkB key) (hn : key.length = n) (hnd : n ≤ d) (hdm : d ≤ maxLen) :
    Calls Tryz.prog 159 #[.pointer (some ⟨gt, 0, none⟩), .int .i64 i, .slice C n d] w (fun e w' => e = .returned (.tuple #[.int .u64 (tDrop T i key).2.1, .int .i64 (tDrop T i key).2.2]) ∧ Tn (sysT gt gm (tDrop T i key).1 M) H w w') := by
  obtain ⟨F, G, hD, hH⟩ := h
  refine (q9_Drop w gt gm T F i key C n d hD.maps hT1 hk hok hn hnd hdm).mono ?_
  rintro e w' ⟨he, F', h1, h2, h3⟩
  refine ⟨he, fun x => F' x ∨ G x, ⟨F', G, ⟨h1, ?_, fun x hx hG => ?_⟩, fun x => Iff.rfl⟩, h2.mono (fun x hx => .inl ((hH x).2 (.inl hx))), fun x hx => ?_⟩
  · obtain ⟨vl2, L2, e2, h4⟩ := hD.mem
    exact ⟨vl2, L2, e2, h4.keep fun x hx => h2.block x (h4.lt hx) (fun c => hD.apart x c hx)⟩
  · rcases h3 x hx with c | c
    · exact hD.apart x c hG
    · have := hD.mem.lt hG; omega
  · rcases hx with c | c
    · exact (h3 x c).imp (fun d => (hH x).2 (.inl d)) id
    · exact .inl ((hH x).2 (.inr c))
theorem ot_Look (i : Int) (key : List Int) (C : Option Addr) (n d : Nat) (h : (sysT gt gm T M).R w H) (hT1 : T.length ≤ 1000) (hb : BytS w C key) (hok : OkB key) (hn : key.length = n) (hnd : n ≤ d) (hdm : d ≤ maxLen) :
    Calls Tryz.prog 158 #[.pointer (some ⟨gt, 0, none⟩), .int .i64 i, .slice C n d] w (Gives (.tuple #[.int .u64 (tLook T i key).1, .int .i64 (tLook T i key).2]) w) := by
  obtain ⟨F, G, hD, _⟩ := h
  exact q9_Look w gt gm T F i key C n d hD.maps hT1 hb hok hn hnd hdm
theorem ot_Load (at_ s : Int) (h : (sysT gt gm T M).R w H) (ha : 0 ≤ at_ ∧ at_ ≤ 18446744073709551615) :
    Calls Tryz.prog 110 #[.pointer (some ⟨gm, 0, none⟩), .int .u64 at_, .int .i64 s] w (Gives (.tuple #[.int .u64 (pLoad M at_ s).1, .int .i64 (pLoad M at_ s).2]) w) := by
  obtain ⟨F, G, hD, _⟩ := h
  exact c8_Load w gm M G at_ s hD.mem ha
end
theorem sysX_map {w : World} {g : Nat} {S : MS} {H : Nat → Prop} (h : (sysX g S).R w H) : ∃ gm gt FT, w.cell? ⟨g, 2, none⟩ = some (.pointer (some ⟨gm, 0, none⟩)) ∧ w.cell? ⟨g, 3, none⟩ = some (.pointer (some ⟨gt, 0, none⟩)) ∧ (sysT gt gm S.T S.M).R w FT ∧ ((∀ x, FT x → H x) ∧ ¬ FT g) ∧
    ∀ (u w' : World) (T' : TT) (M' : PM), Below w.heap.size w u → ({ S with T := T', M := M' } : MS).ok → Tn (sysT gt gm T' M') FT u w' → Tn (sysX g { S with T := T', M := M' }) H w w' := by
  obtain ⟨hok, A, hA, F1, F2, h1, ⟨F3, F4, h3, h4, h5, h6⟩, h7, h8⟩ := h
  obtain ⟨-, -, c2, c3, -⟩ := xc_head h1.1
  refine ⟨A.gm, A.gt, F3, c2, c3, h3, ⟨fun x hx => (h8 x).2 (.inr ((h6 x).2 (.inl hx))), fun hx => h7 g ((h1.2 g).2 rfl) ((h6 g).2 (.inl hx))⟩, fun u w' T' M' b hok' hT => ?_⟩
  have hT' := hT.before b
  obtain ⟨F3', k1, k2, k3⟩ := hT'
  have d1 : ∀ x, F1 x → ¬ F3 x := fun x hx c => h7 x hx ((h6 x).2 (.inl c))
  have d4 : ∀ x, F4 x → ¬ F3 x := fun x hx c => h5 x c hx
  have hB := (sysB g (xC A S).toArray 80).keep h1 (fun x hx => k2.block x (Sys.lt _ h1 hx) (d1 x hx))
  have hR := Sys.keep _ h4 (fun x hx => k2.block x (Sys.lt _ h4 hx) (d4 x hx))
  have n1 : ∀ x, F1 x → ¬ F3' x := fun x hx c => by
    rcases k3 x c with d | d
    · exact d1 x hx d
    · have := Sys.lt _ h1 hx; omega
  have n4 : ∀ x, F3' x → ¬ F4 x := fun x c hx => by
    rcases k3 x c with d | d
    · exact d4 x hx d
    · have := Sys.lt _ h4 hx; omega
  refine ⟨fun x => F1 x ∨ F3' x ∨ F4 x, ⟨hok', A, ⟨hA.l, hA.d, hA.r, hA.c, hA.L⟩, F1, fun x => F3' x ∨ F4 x, hB, ⟨F3', F4, k1, ?_, n4, fun x => Iff.rfl⟩, fun x hx c => ?_, fun x => Iff.rfl⟩, k2.mono (fun x hx => .inl ((h8 x).2 (.inr ((h6 x).2 (.inl hx))))), fun x hx => ?_⟩
  · have hl : XLies A { S with T := T', M := M' } = XLies A S := by
      funext u
      exact propext ⟨fun x => ⟨x.l, x.d, x.r, x.c⟩, fun x => ⟨x.l, x.d, x.r, x.c⟩⟩
    rw [hl]
    exact hR
  · rcases c with c | c
    · exact n1 x hx c
    · exact h7 x hx ((h6 x).2 (.inr c))
  · rcases hx with c | c | c
    · exact .inl ((h8 x).2 (.inl c))
    · exact (k3 x c).imp (fun d => (h8 x).2 (.inr ((h6 x).2 (.inl d)))) id
    · exact .inl ((h8 x).2 (.inr ((h6 x).2 (.inr c))))
theorem pStore_lenM (M : PM) (a s n : Int) : (pStore M a s n).1.length = M.length := by
  unfold pStore
  split
  · split
    · rfl
    · split
      · rfl
      · simp
  · rfl
theorem memS_ok {S : MS} (h : S.ok) {M' : PM} (hM : M'.length = S.M.length) : ({ S with M := M' } : MS).ok := ⟨h.l, h.chk, h.at_, h.n, h.r, h.D, h.dr, ⟨h.steps.1, by rw [hM]; exact h.steps.2⟩⟩
set_option maxHeartbeats 4000000 in
theorem m11_store (w : World) (g : Nat) (S : MS) (H : Nat → Prop) (x : Ins) (v : Wh) (h : (sysX g S).R w H) (hr : RegOk x) (hx : x.ok) (hv : 0 ≤ v.size ∧ v.size ≤ 16) :
    Calls Tryz.prog 69 #[.pointer (some ⟨g, 0, none⟩), iV x, whV v] w (OpS (sysX g { S with M := (mStore S x v).1 }) H (.int .i64 (mStore S x v).2) w) := by
  have Q := Lib.hid (IDuo.new x v w)
  have C1 := Lib.hid fun u (b : Below w.heap.size w u) => m11_readI u g S H x.dst ((sysX g S).after h b) hr.1
  have C2 := Lib.hid fun u (b : Below w.heap.size w u) => m11_second u g S H x v ((sysX g S).after h b) hr.2 hx
  have hok := sysX_ok h
  obtain ⟨gm, gt, FT, cm, ct, hT, ⟨hTH, -⟩, hclose⟩ := sysX_map h
  have CM := Lib.hid fun u (b : Below w.heap.size w u) => cell_on cm b
  have C3 := Lib.hid fun u (b : Below w.heap.size w u) => ot_Load (offI (rd S x.dst).1 x.off) v.size ((sysT gt gm S.T S.M).after hT b) (offI_rng _ _)
  have C5 := Lib.hid fun (n : Int) (hn : 0 ≤ n ∧ n ≤ 18446744073709551615) u (b : Below w.heap.size w u) => ot_Store (offI (rd S x.dst).1 x.off) v.size n ((sysT gt gm S.T S.M).after hT b) (offI_rng _ _) hn
  have hpm : 0 ≤ (pLoad S.M (offI (rd S x.dst).1 x.off) v.size).1 ∧ (pLoad S.M (offI (rd S x.dst).1 x.off) v.size).1 ≤ 18446744073709551615 := by
    obtain ⟨F, G, hD, _⟩ := hT
    exact pLoad_rng hD.mem.ok _ _
  have C4 := Lib.hid fun u => did_any v.op 0 (pLoad S.M (offI (rd S x.dst).1 x.off) v.size).1 (mSec S x v).1 true u hpm.1 (mSec_rng hok x v hr.2).1
  have CL := Lib.hid fun (n : Int) u w' (b : Below w.heap.size w u) => hclose u w' S.T (pStore S.M (offI (rd S x.dst).1 x.off) v.size n).1 b (memS_ok hok (pStore_lenM _ _ _ _))
  have SAME := Lib.hid fun u (b : Below w.heap.size w u) => Tn.refl h b
  have OW := Lib.hid (off_wrap (rd S x.dst).1 x.off)
  have RN := Lib.hid (mSec_rng hok x v hr.2)
  unfold mStore
  clear h hr hok hv hx cm ct hT hTH hclose hpm
  generalize offI (rd S x.dst).1 x.off = ad at *
  generalize pLoad S.M ad v.size = q at *
  generalize mSec S x v = r at *
  generalize rd S x.dst = p at *
  obtain ⟨a, ea⟩ := p
  obtain ⟨b, eb⟩ := r
  obtain ⟨n, en⟩ := q
  dsimp only at *
  cases h1 : (ea == 0)
  · have n1 := ne_of_eq0 h1
    rw [if_neg Bool.false_ne_true]
    clear C2 C3 C4 C5 CL h1
    go_enter Tryz.func69, Tryz.ntmps69
    go_wp2_with fail
    refine (C1.out _ Q.out.1).mono ?_
    rintro e w1 ⟨rfl, b1⟩
    replace Q := Lib.hid (Q.out.after b1)
    clear b1
    obtain ⟨p0, p1, p2, p3, p4⟩ := Q.out.2.1.cells
    obtain ⟨z0, z1, z2, z3, z4, z5⟩ := Q.out.2.2.cells
    have k1 := Q.out.2.1.lt
    have k2 := Q.out.2.2.lt
    go_wp2_with fail
    go_ret
    exact ⟨rfl, SAME.out _ Q.out.1⟩
  have n1 := ne_of_eq1 h1
  rw [if_pos rfl]
  clear h1
  cases h2 : (eb == 0)
  · have n2 := ne_of_eq0 h2
    rw [if_neg Bool.false_ne_true]
    clear C3 C4 C5 CL h2
    go_enter Tryz.func69, Tryz.ntmps69
    go_wp2_with fail
    refine (C1.out _ Q.out.1).mono ?_
    rintro e w1 ⟨rfl, b1⟩
    replace Q := Lib.hid (Q.out.after b1)
    clear b1
    obtain ⟨p0, p1, p2, p3, p4⟩ := Q.out.2.1.cells
    obtain ⟨z0, z1, z2, z3, z4, z5⟩ := Q.out.2.2.cells
    have k1 := Q.out.2.1.lt
    have k2 := Q.out.2.2.lt
    go_wp2_with fail
    refine (C2.out _ Q.out.1).mono ?_
    rintro e w2 ⟨rfl, b2⟩
    replace Q := Lib.hid (Q.out.after b2)
    clear b2
    clear p0 p1 p2 p3 p4 z0 z1 z2 z3 z4 z5 k1 k2
    obtain ⟨p0, p1, p2, p3, p4⟩ := Q.out.2.1.cells
    obtain ⟨z0, z1, z2, z3, z4, z5⟩ := Q.out.2.2.cells
    have k1 := Q.out.2.1.lt
    have k2 := Q.out.2.2.lt
    go_wp2_with fail
    go_ret
    exact ⟨rfl, SAME.out _ Q.out.1⟩
  have n2 := ne_of_eq1 h2
  rw [if_pos rfl]
  clear h2
  have OW2 := OW.out
  cases h3 : (v.kind == 8)
  · rw [if_neg Bool.false_ne_true]
    have R5 := Lib.hid (C5.out b RN.out)
    have L5 := Lib.hid (CL.out b)
    clear C3 C4 C5 CL RN
    generalize pStore S.M ad v.size b = st at *
    obtain ⟨M', es⟩ := st
    dsimp only at *
    go_enter Tryz.func69, Tryz.ntmps69
    go_wp2_with fail
    refine (C1.out _ Q.out.1).mono ?_
    rintro e w1 ⟨rfl, b1⟩
    replace Q := Lib.hid (Q.out.after b1)
    clear b1
    obtain ⟨p0, p1, p2, p3, p4⟩ := Q.out.2.1.cells
    obtain ⟨z0, z1, z2, z3, z4, z5⟩ := Q.out.2.2.cells
    have k1 := Q.out.2.1.lt
    have k2 := Q.out.2.2.lt
    go_wp2_with fail
    refine (C2.out _ Q.out.1).mono ?_
    rintro e w2 ⟨rfl, b2⟩
    replace Q := Lib.hid (Q.out.after b2)
    clear b2
    clear p0 p1 p2 p3 p4 z0 z1 z2 z3 z4 z5 k1 k2
    obtain ⟨p0, p1, p2, p3, p4⟩ := Q.out.2.1.cells
    obtain ⟨z0, z1, z2, z3, z4, z5⟩ := Q.out.2.2.cells
    have k1 := Q.out.2.1.lt
    have k2 := Q.out.2.2.lt
    go_wp2_with fail
    have c2 := CM.out _ Q.out.1
    go_still_tail 8, (by kernel_rfl)
    change wpList _ _ _ _ _ w2.drew
    replace Q := Lib.hid (Q.out.after (Below.drew (Below.refl _ _)))
    clear c2 p0 p1 p2 p3 p4 z0 z1 z2 z3 z4 z5 k1 k2
    generalize w2.drew = ws at *
    go_wp2_with fail
    refine (R5.out _ Q.out.1).mono ?_
    rintro e w9 ⟨rfl, t9⟩
    have TT := Lib.hid (L5.out _ _ Q.out.1 t9)
    clear t9
    go_wp2_with fail
    go_ret
    exact ⟨rfl, TT.out⟩
  rw [if_pos rfl]
  cases h4 : (en == 0)
  · have n4 := ne_of_eq0 h4
    rw [if_neg Bool.false_ne_true]
    clear C4 C5 CL h4 RN
    go_enter Tryz.func69, Tryz.ntmps69
    go_wp2_with fail
    refine (C1.out _ Q.out.1).mono ?_
    rintro e w1 ⟨rfl, b1⟩
    replace Q := Lib.hid (Q.out.after b1)
    clear b1
    obtain ⟨p0, p1, p2, p3, p4⟩ := Q.out.2.1.cells
    obtain ⟨z0, z1, z2, z3, z4, z5⟩ := Q.out.2.2.cells
    have k1 := Q.out.2.1.lt
    have k2 := Q.out.2.2.lt
    go_wp2_with fail
    refine (C2.out _ Q.out.1).mono ?_
    rintro e w2 ⟨rfl, b2⟩
    replace Q := Lib.hid (Q.out.after b2)
    clear b2
    clear p0 p1 p2 p3 p4 z0 z1 z2 z3 z4 z5 k1 k2
    obtain ⟨p0, p1, p2, p3, p4⟩ := Q.out.2.1.cells
    obtain ⟨z0, z1, z2, z3, z4, z5⟩ := Q.out.2.2.cells
    have k1 := Q.out.2.1.lt
    have k2 := Q.out.2.2.lt
    go_wp2_with fail
    have HB : Below w2.heap.size w2 w2.drew := Below.drew (Below.refl _ _)
    have KK := Lib.hid (fun (wx : World) (hx : Below w2.heap.size w2 wx) => And.intro (CM.out _ (below_next' Q.out.1 hx)) (cell_on z5 hx))
    clear p0 p1 p2 p3 p4 z0 z1 z2 z3 z4 z5 k1 k2
    go_region_held3 (fun w' => w'.cell? ⟨g, 2, none⟩ = some (.pointer (some ⟨gm, 0, none⟩)) ∧ w'.cell? ⟨w.heap.size + 1, 5, none⟩ = some (.int .i64 v.size))
      (exact KK.out _ HB)
      (first | (go_at_call 110; refine (C3.out _ (below_next' Q.out.1 HB)).mono ?_; rintro e w4 ⟨rfl, b4⟩; replace HB := below_next' HB b4; clear b4))
    replace Q := Lib.hid (Q.out.after HB)
    clear HB KK C3
    obtain ⟨p0, p1, p2, p3, p4⟩ := Q.out.2.1.cells
    obtain ⟨z0, z1, z2, z3, z4, z5⟩ := Q.out.2.2.cells
    have k1 := Q.out.2.1.lt
    have k2 := Q.out.2.2.lt
    go_wp2_with fail
    go_ret
    exact ⟨rfl, SAME.out _ Q.out.1⟩
  have n4 := ne_of_eq1 h4
  rw [if_pos rfl]
  clear h4
  have AR := aluV_range true v.op 0 n b
  have R5 := Lib.hid (C5.out (aluV true v.op 0 n b) AR)
  have L5 := Lib.hid (CL.out (aluV true v.op 0 n b))
  clear C5 CL RN AR
  generalize pStore S.M ad v.size (aluV true v.op 0 n b) = st at *
  obtain ⟨M', es⟩ := st
  dsimp only at *
  go_enter Tryz.func69, Tryz.ntmps69
  go_wp2_with fail
  refine (C1.out _ Q.out.1).mono ?_
  rintro e w1 ⟨rfl, b1⟩
  replace Q := Lib.hid (Q.out.after b1)
  clear b1
  obtain ⟨p0, p1, p2, p3, p4⟩ := Q.out.2.1.cells
  obtain ⟨z0, z1, z2, z3, z4, z5⟩ := Q.out.2.2.cells
  have k1 := Q.out.2.1.lt
  have k2 := Q.out.2.2.lt
  go_wp2_with fail
  refine (C2.out _ Q.out.1).mono ?_
  rintro e w2 ⟨rfl, b2⟩
  replace Q := Lib.hid (Q.out.after b2)
  clear b2
  clear p0 p1 p2 p3 p4 z0 z1 z2 z3 z4 z5 k1 k2
  obtain ⟨p0, p1, p2, p3, p4⟩ := Q.out.2.1.cells
  obtain ⟨z0, z1, z2, z3, z4, z5⟩ := Q.out.2.2.cells
  have k1 := Q.out.2.1.lt
  have k2 := Q.out.2.2.lt
  go_wp2_with fail
  have HB : Below w2.heap.size w2 w2.drew := Below.drew (Below.refl _ _)
  have KK := Lib.hid (fun (wx : World) (hx : Below w2.heap.size w2 wx) => And.intro (CM.out _ (below_next' Q.out.1 hx)) (cell_on z5 hx))
  clear p0 p1 p2 p3 p4 z0 z1 z2 z3 z4 z5 k1 k2
  go_region_held3 (fun w' => w'.cell? ⟨g, 2, none⟩ = some (.pointer (some ⟨gm, 0, none⟩)) ∧ w'.cell? ⟨w.heap.size + 1, 5, none⟩ = some (.int .i64 v.size))
    (exact KK.out _ HB)
    (first | (go_at_call 110; refine (C3.out _ (below_next' Q.out.1 HB)).mono ?_; rintro e w4 ⟨rfl, b4⟩; replace HB := below_next' HB b4; clear b4))
  replace Q := Lib.hid (Q.out.after HB)
  clear HB KK C3
  obtain ⟨p0, p1, p2, p3, p4⟩ := Q.out.2.1.cells
  obtain ⟨z0, z1, z2, z3, z4, z5⟩ := Q.out.2.2.cells
  have k1 := Q.out.2.1.lt
  have k2 := Q.out.2.2.lt
  go_wp2_with fail
  refine (C4.out _).mono ?_
  intro e w5 hd
  obtain ⟨rfl, b5⟩ := did_below hd
  replace Q := Lib.hid (Q.out.after b5)
  clear b5 hd p0 p1 p2 p3 p4 z0 z1 z2 z3 z4 z5 k1 k2
  obtain ⟨p0, p1, p2, p3, p4⟩ := Q.out.2.1.cells
  obtain ⟨z0, z1, z2, z3, z4, z5⟩ := Q.out.2.2.cells
  have k1 := Q.out.2.1.lt
  have k2 := Q.out.2.2.lt
  go_wp2_with fail
  have c2 := CM.out _ Q.out.1
  go_still_tail 8, (by kernel_rfl)
  change wpList _ _ _ _ _ w5.drew
  replace Q := Lib.hid (Q.out.after (Below.drew (Below.refl _ _)))
  clear c2 p0 p1 p2 p3 p4 z0 z1 z2 z3 z4 z5 k1 k2
  generalize w5.drew = ws at *
  go_wp2_with fail
  refine (R5.out _ Q.out.1).mono ?_
  rintro e w9 ⟨rfl, t9⟩
  have TT := Lib.hid (L5.out _ _ Q.out.1 t9)
  clear t9
  go_wp2_with fail
  go_ret
  exact ⟨rfl, TT.out⟩
end Go.Proofs.YtlbhffdpklbhfaaGreat
namespace Go.Proofs.YtlbhffdpklbhfaaGreat
open Go.RowKit
set_option linter.unusedVariables false
set_option linter.unusedSimpArgs false
def ByteN (r : List Int × Int) (w : World) (e : Ending) (w' : World) : Prop :=
  ∃ A c, e = .returned (.tuple #[.slice A r.1.length c, .int .i64 r.2]) ∧ BytS w' A r.1 ∧ r.1.length ≤ c ∧ c ≤ maxLen ∧ Below w.heap.size w w' ∧ ∀ g o, 0 < r.1.length → A = some ⟨g, o, none⟩ → w.heap.size ≤ g
theorem byteN_none {w w' : World} (n : Int) (h : Below w.heap.size w w') : ByteN ([], n) w (.returned (.tuple #[.slice none 0 0, .int .i64 n])) w' :=
  ⟨none, 0, rfl, BytS.none_ _ _, Nat.le_refl _, Nat.zero_le _, h, fun g o h0 _ => absurd h0 (by simp)⟩
set_option maxRecDepth 100000 in
set_option maxHeartbeats 2000000 in
theorem c8_ReadN_no (w : World) (g : Nat) (at_ s : Int) (hs : s < 0 ∨ 1024 < s) :
    Calls Tryz.prog 162 #[.pointer (some ⟨g, 0, none⟩), .int .u64 at_, .int .i64 s] w (ByteN ([], 1) w) := by
  rcases hs with hs | hs
  · go_enter Tryz.func162, Tryz.ntmps162
    go_wp2_with fail
    go_ret2
    exact byteN_none 1 (Below.refl _ _)
  · have hs0 : (0 : Int) ≤ s := by omega
    go_enter Tryz.func162, Tryz.ntmps162
    go_wp2_with fail
    go_ret2
    exact byteN_none 1 (Below.refl _ _)
set_option maxRecDepth 100000 in
set_option maxHeartbeats 2000000 in
theorem c8_ReadN_out (w : World) (g : Nat) (mv : Value) (L : List AR) (F : Nat → Prop) (at_ s : Int) (h : RepQ w g mv L F) (ha : 0 ≤ at_ ∧ at_ ≤ 18446744073709551615) (hs : 0 ≤ s ∧ s ≤ 1024) (hw : pWh (arM L) at_ s = none) :
    Calls Tryz.prog 162 #[.pointer (some ⟨g, 0, none⟩), .int .u64 at_, .int .i64 s] w (ByteN ([], 80) w) := by
  have C := Lib.hid (c8_find_out w g mv L F at_ s h ha hs hw)
  rw [show rgZ = .agg #[.slice none 0 0, .slice none 0 0, .bool false] from rfl] at C
  clear hw h
  go_enter Tryz.func162, Tryz.ntmps162
  go_wp2_with fail
  refine (C.out).mono ?_
  rintro e w1 ⟨rfl, b1⟩
  have V := Lib.hid b1
  clear b1
  go_wp2_with fail
  go_ret2
  exact byteN_none 80 (below_alloc V.out _)
set_option maxRecDepth 100000 in
set_option maxHeartbeats 2000000 in
theorem c8_ReadN_in (w : World) (g : Nat) (mv : Value) (L : List AR) (F : Nat → Prop) (at_ s : Int) (h : RepQ w g mv L F) (ha : 0 ≤ at_ ∧ at_ ≤ 18446744073709551615) (hs : 0 ≤ s ∧ s ≤ 1024) (k o : Nat) (hw : pWh (arM L) at_ s = some (k, o)) (R : List Int × Int)
    (hR : (if blankB (pAt (arM L) k) o s.toNat then ([], 81) else (((pAt (arM L) k).b.drop o).take s.toNat, 0)) = R) :
    Calls Tryz.prog 162 #[.pointer (some ⟨g, 0, none⟩), .int .u64 at_, .int .i64 s] w (ByteN R w) := by
  have C := Lib.hid (c8_find_in w g mv L F at_ s h ha hs k o hw)
  obtain ⟨_, hk, _, hfit, _⟩ := pWh_some hw
  have hok := h.ok k hk
  rw [arM_len] at hk
  rw [arM_at] at hR hok hfit
  obtain ⟨hob, hbl, hb1024, _⟩ := hok
  have hfit2 := hfit hs.1
  obtain ⟨sn, rfl⟩ : ∃ sn : Nat, s = sn := ⟨s.toNat, by omega⟩
  have en : ((sn : Int)).toNat = sn := by omega
  rw [en] at hR hfit2
  have HR : Hid (∀ w', Below w.heap.size w w' → RepQ w' g mv L F) := Lib.hid fun w' b => h.after b
  obtain ⟨Ab, cb, hvb, hcb1, hcb2⟩ := own_slice (h.own k hk).1
  obtain ⟨Ak, ck, hvk, hck1, hck2⟩ := own_slice (h.own k hk).2
  have hv : rgV (arAt L k) = .agg #[.slice Ab (arAt L k).a.b.length cb, .slice Ak (arAt L k).a.bl.length ck, .bool (arAt L k).a.fx] := by unfold rgV; rw [hvb, hvk]
  rw [hv] at C
  clear h hw hfit en hv
  have HVB := Lib.hid hvb
  have HVK := Lib.hid hvk
  have HRR := Lib.hid hR
  have HBL := Lib.hid hbl
  have HO := Lib.hid hob
  clear hvb hvk hR hob
  rw [hbl] at hck1 HVK C
  clear hbl
  unfold maxLen at hcb2 hck2
  generalize hlen : (arAt L k).a.b.length = lb at *
  have HLEN := Lib.hid hlen
  clear hlen
  generalize (arAt L k).a.fx = fx at *
  have o0 : (0 : Int) ≤ o := by omega
  go_enter Tryz.func162, Tryz.ntmps162
  go_wp2_with fail
  refine (C.out).mono ?_
  rintro e w0 ⟨rfl, b1⟩
  have V := Lib.hid (below_alloc b1 (.cells #[.slice Ab lb cb, .slice Ak lb ck, .bool fx] 158))
  have BX : Hid (Blk w0.heap.size #[.slice Ab lb cb, .slice Ak lb ck, .bool fx] 158 (w0.alloc (.cells #[.slice Ab lb cb, .slice Ak lb ck, .bool fx] 158))) := Lib.hid (Blk.new w0 _ _ rfl)
  have h1 := HR.out _ V.out
  have OB := Lib.hid (h1.own k hk).1
  have OK := Lib.hid (h1.own k hk).2
  rw [HVB.out, HLEN.out] at OB
  rw [HVK.out, HBL.out] at OK
  clear b1 h1 C HR HVB HVK
  generalize hgr : w0.heap.size = gr at *
  generalize hw1 : w0.alloc (.cells #[.slice Ab lb cb, .slice Ak lb ck, .bool fx] 158) = w1 at *
  have x0 := BX.out.cell 0
  have x1 := BX.out.cell 1
  go_wp2_with fail
  go_loop [31] (fun v => ∃ j : Nat, v = .int .i64 j ∧ j ≤ sn ∧ Hid (∀ t, o ≤ t → t < o + j → (arAt L k).a.bl.getD t false = false)) (fun v => sn - (intOf v).toNat)
  case atStart => exact ⟨0, rfl, by omega, Lib.hid fun t h1 h2 => by omega⟩
  case round =>
    obtain ⟨j, rfl, hj, HT⟩ := hrel
    have hj0 : (0 : Int) ≤ j := by omega
    by_cases hlt : (j : Int) < sn
    · obtain ⟨gk, rfl, _, hgk⟩ := own_addr OK.out (by omega)
      have ck0 := OK.out.cellAt (o + j) (by omega)
      rw [boC_at _ (by rw [HBL.out]; omega)] at ck0
      cases hbit : (arAt L k).a.bl.getD (o + j) false
      · have HT2 : Hid (∀ t, o ≤ t → t < o + (j + 1) → (arAt L k).a.bl.getD t false = false) := Lib.hid fun t h1 h2 => by
          by_cases e : t = o + j
          · rw [e]; exact hbit
          · exact HT.out t h1 (by omega)
        rw [hbit] at ck0
        clear hbit
        go_wp2_with fail
        go_round
        case rel => exact ⟨j + 1, by go_num, by omega, HT2⟩
        case measure => simp [intOf]; omega
      · have HE : Hid (R = ([], 81)) := Lib.hid (by
          rw [← HRR.out]
          unfold blankB
          rw [blank_some (t := o + j) (by omega) (by omega) hbit, if_pos rfl])
        rw [hbit] at ck0
        clear hbit
        go_wp2_with fail
        go_ret2
        rw [HE.out]
        exact byteN_none 81 V.out
    · have hjs : j = sn := by omega
      have HE : Hid (R = (((arAt L k).a.b.drop o).take sn, 0)) := Lib.hid (by
        rw [← HRR.out]
        unfold blankB
        rw [blank_all.mpr (fun t h1 h2 => HT.out t h1 (by omega)), if_neg Bool.false_ne_true])
      have hge : (sn : Int) ≤ j := by omega
      clear HT hjs hj
      have OWN : Hid (∀ A n d, BytS w1 A (((arAt L k).a.b.drop o).take sn) → n = sn → Calls Tryz.prog 140 #[.slice A n d] w1 (fun e w' => ∃ A c, e = .returned (.slice A sn c) ∧ ByteN R w (.returned (.tuple #[.slice A sn c, .int .i64 0])) w')) := Lib.hid fun A n d hA hn => by
        subst hn
        have CL := cut_len (arAt L k).a.b o n (by rw [HLEN.out]; exact hfit2)
        refine (c8_own w1 A _ n d hA CL (by omega)).mono ?_
        rintro e w' ⟨ga, rfl, ho, hb⟩
        refine ⟨_, _, rfl, ?_⟩
        rw [HE.out]
        exact ⟨_, n, by rw [CL], own_bytS CL.symm ho, by rw [CL]; exact Nat.le_refl _, by unfold maxLen; omega, below_next' V.out hb, fun g1 o1 h0 e => by
          injection e with e
          injection e with e1 e2
          subst e1
          rw [CL] at h0
          obtain ⟨g2, e2, hlow, _⟩ := own_addr ho h0
          injection e2 with e2
          injection e2 with e3
          rw [e3]
          exact Nat.le_trans V.out.size hlow⟩
      by_cases hz : sn = 0
      · subst hz
        have N0 : Hid (∀ A, BytS w1 A (((arAt L k).a.b.drop o).take 0)) := Lib.hid fun A => by rw [List.take_zero]; exact BytS.none_ _ _
        have hoc : (o : Int) ≤ cb := by omega
        cases Ab with
        | none =>
          go_wp2_with fail
          all_goals
            refine (OWN.out _ _ _ (N0.out _) rfl).mono ?_
            rintro e w2 ⟨A2, c2, rfl, bs⟩
            have BS := Lib.hid bs
            clear bs
            go_wp2_with fail
            go_ret2
            exact BS.out
        | some ab =>
          obtain ⟨gb, rfl⟩ := own_form OB.out
          go_wp2_with fail
          all_goals
            refine (OWN.out _ _ _ (N0.out _) rfl).mono ?_
            rintro e w2 ⟨A2, c2, rfl, bs⟩
            have BS := Lib.hid bs
            clear bs
            go_wp2_with fail
            go_ret2
            exact BS.out
      · obtain ⟨gb, rfl, _, hgb⟩ := own_addr OB.out (by omega)
        have hz0 : 0 < sn := by omega
        have hcbo : ¬ cb = o := by omega
        have NB : Hid (BytS w1 (some ⟨gb, o, none⟩) (((arAt L k).a.b.drop o).take sn)) := Lib.hid fun _ => ⟨gb, o, rfl, hgb, fun t ht => by
          rw [cut_len _ _ _ (by rw [HLEN.out]; exact hfit2)] at ht
          rw [OB.out.cellAt _ (by omega), byC_at _ (by rw [HLEN.out]; omega), cut_at _ _ _ _ (by rw [HLEN.out]; exact hfit2) ht]⟩
        go_wp2_with fail
        refine (OWN.out _ _ _ NB.out rfl).mono ?_
        rintro e w2 ⟨A2, c2, rfl, bs⟩
        have BS := Lib.hid bs
        clear bs
        go_wp2_with fail
        go_ret2
        exact BS.out
theorem c8_ReadN (w : World) (g : Nat) (M : PM) (F : Nat → Prop) (at_ s : Int) (h : RepP w g M F) (ha : 0 ≤ at_ ∧ at_ ≤ 18446744073709551615) :
    Calls Tryz.prog 162 #[.pointer (some ⟨g, 0, none⟩), .int .u64 at_, .int .i64 s] w (ByteN (pRead M at_ s) w) := by
  obtain ⟨mv, L, rfl, h⟩ := h
  by_cases hs : s < 0 ∨ 1024 < s
  · unfold pRead
    rw [if_pos hs]
    exact c8_ReadN_no w g at_ s hs
  · cases hw : pWh (arM L) at_ s with
    | none =>
      unfold pRead
      rw [if_neg hs, hw]
      exact c8_ReadN_out w g mv L F at_ s h ha (by omega) hw
    | some p =>
      obtain ⟨k, o⟩ := p
      refine c8_ReadN_in w g mv L F at_ s h ha (by omega) k o hw _ ?_
      unfold pRead
      rw [if_neg hs, hw]
end Go.Proofs.YtlbhffdpklbhfaaGreat
