/-
  Texts, one behind the other: MachNew4.
  Conditions: those that each theorem states.
-/
import Derived.Deep.RegionHeld3
import Derived.Test.YtlbhffdpklbhfaaGreatPz41
import Derived.Test.YtlbhffdpklbhfaaGreatPz43
namespace Go.Proofs.YtlbhffdpklbhfaaGreat
open Go.RowKit
set_option maxRecDepth 100000
set_option linter.unusedVariables false
set_option linter.unusedSimpArgs false
structure EQ (w : World) (g : Nat) (a b c d : Value) (u : World) : Prop where
  bl : Below w.heap.size w u
  x : Blk g #[a, b, c, d] 28 u
theorem EQ.after {w u u' : World} {g : Nat} {a b c d : Value} (h : EQ w g a b c d u) (k : Below u.heap.size u u') : EQ w g a b c d u' := ⟨below_next' h.bl k, h.x.after k⟩
theorem EQ.cells {w u : World} {g : Nat} {a b c d : Value} (h : EQ w g a b c d u) : u.cell? ⟨g, 0, none⟩ = some a ∧ u.cell? ⟨g, 1, none⟩ = some b ∧ u.cell? ⟨g, 2, none⟩ = some c ∧ u.cell? ⟨g, 3, none⟩ = some d := by
  refine ⟨?_, ?_, ?_, ?_⟩ <;> (rw [Blk.cell h.x]; rfl)
theorem EQ.turn {w u u' : World} {a b c d : Value} {F : Nat → Prop} (h : EQ w w.heap.size a b c d u) (t : Turn F u u') (hF : ∀ x, F x → w.heap.size < x) : EQ w w.heap.size a b c d u' :=
  ⟨Turn.on h.bl t h.bl.size (fun x hx => Nat.le_of_lt (hF x hx)), Blk.same h.x (t.block _ h.x.lt (fun c => Nat.lt_irrefl _ (hF _ c)))⟩
theorem EQ.new (w : World) (a b c d : Value) : EQ w w.heap.size a b c d (w.alloc (.cells #[a, b, c, d] 28)) := ⟨below_alloc (Below.refl _ _) _, Blk.new w _ _ rfl⟩
set_option maxHeartbeats 8000000 in
theorem m11_New_no (w : World) (l : List Ins) (A : Option Addr) (c : Nat) (E : EV) (h : InsS w A l) (hx : OkAll l) (hl : l.length ≤ 100000) (hc : l.length ≤ c) (hcm : c ≤ maxLen)
    (hno : ((chk l).2 == 0 && (decide (E.ctx.length ≤ 64) && decide (E.L.length ≤ E.D.length))) = false) :
    Calls Tryz.prog 8 #[.slice A l.length c, envV E] w (fun e w' => e = .returned (.tuple #[.pointer none, .int .i64 1]) ∧ Below w.heap.size w w') := by
  have CK := Lib.hid fun u (b : Below w.heap.size w u) => c7_Check l A c u hl (h.after b) hx
  obtain ⟨ctx, ca, cc, D, da, dc, L, ia, ic, dr, na, nc⟩ := E
  unfold envV
  dsimp only at hno ⊢
  have Q := Lib.hid (EQ.new w (.slice ca ctx.length cc) (.slice da D.length dc) (.slice ia L.length ic) (.slice na dr.length nc))
  clear h hx hl
  generalize (chk l).2 = er at *
  generalize (chk l).1 = aa at *
  generalize l.length = n at *
  generalize ctx.length = nx at *
  generalize D.length = nd at *
  generalize L.length = nl at *
  generalize dr.length = nr at *
  unfold maxLen at hcm
  cases h1 : (er == 0)
  · have n1 := ne_of_eq0 h1
    clear h1 hno
    go_enter Tryz.func8, Tryz.ntmps8
    go_wp2_with fail
    refine (CK.out _ Q.out.bl).mono ?_
    rintro e w2 ⟨rfl, b2⟩
    replace Q := Lib.hid (Q.out.after b2)
    obtain ⟨e0, e1, e2, e3⟩ := Q.out.cells
    clear b2
    go_wp2_with fail
    go_ret2
    exact ⟨rfl, Q.out.bl⟩
  · have n1 := ne_of_eq1 h1
    rw [h1, Bool.true_and] at hno
    clear h1
    by_cases h2 : nx ≤ 64
    · have h3 : ¬ nl ≤ nd := by simpa [h2] using hno
      clear hno
      go_enter Tryz.func8, Tryz.ntmps8
      go_wp2_with fail
      refine (CK.out _ Q.out.bl).mono ?_
      rintro e w2 ⟨rfl, b2⟩
      replace Q := Lib.hid (Q.out.after b2)
      obtain ⟨e0, e1, e2, e3⟩ := Q.out.cells
      clear b2
      go_wp2_with fail
      go_ret2
      exact ⟨rfl, Q.out.bl⟩
    · clear hno
      go_enter Tryz.func8, Tryz.ntmps8
      go_wp2_with fail
      refine (CK.out _ Q.out.bl).mono ?_
      rintro e w2 ⟨rfl, b2⟩
      replace Q := Lib.hid (Q.out.after b2)
      obtain ⟨e0, e1, e2, e3⟩ := Q.out.cells
      clear b2
      go_wp2_with fail
      go_ret2
      exact ⟨rfl, Q.out.bl⟩
structure HP (w ws : World) (g : Nat) (a b c d : Value) (P1 P2 P3 : World → Prop) (u : World) : Prop where
  e : EQ w g a b c d u
  s : Below ws.heap.size ws u
  p : ∀ v, Below u.heap.size u v → P1 v ∧ P2 v ∧ P3 v
section
variable {w ws u u' : World} {g : Nat} {a b c d : Value} {P1 P2 P3 : World → Prop} {B n size : Nat} {e : TypeId} {v : Value} {xs : List Value}
theorem hp_own (h : HP w ws g a b c d P1 P2 P3 u) (o : u'.ownsRow u.heap.size e size v n xs) (y : World) (k : Below u'.heap.size u' y) : y.ownsRow ws.heap.size e size v n xs :=
  own_after (own_base o (fun k hk => Nat.le_trans h.s.size (o.lt k hk).1)) k
theorem HP.one (h : HP w ws g a b c d P1 P2 P3 u) (k : Below u.heap.size u u') (o : u'.ownsRow u.heap.size e size v n xs) : HP w ws g a b c d (fun y => y.ownsRow ws.heap.size e size v n xs) P2 P3 u' :=
  ⟨h.e.after k, below_next' h.s k, fun y k2 => ⟨hp_own h o y k2, (h.p y (below_next' k k2)).2.1, (h.p y (below_next' k k2)).2.2⟩⟩
theorem HP.two (h : HP w ws g a b c d P1 P2 P3 u) (k : Below u.heap.size u u') (o : u'.ownsRow u.heap.size e size v n xs) : HP w ws g a b c d P1 (fun y => y.ownsRow ws.heap.size e size v n xs) P3 u' :=
  ⟨h.e.after k, below_next' h.s k, fun y k2 => ⟨(h.p y (below_next' k k2)).1, hp_own h o y k2, (h.p y (below_next' k k2)).2.2⟩⟩
theorem HP.three (h : HP w ws g a b c d P1 P2 P3 u) (k : Below u.heap.size u u') (o : u'.ownsRow u.heap.size e size v n xs) : HP w ws g a b c d P1 P2 (fun y => y.ownsRow ws.heap.size e size v n xs) u' :=
  ⟨h.e.after k, below_next' h.s k, fun y k2 => ⟨(h.p y (below_next' k k2)).1, (h.p y (below_next' k k2)).2.1, hp_own h o y k2⟩⟩
theorem HP.cells (h : HP w ws g a b c d P1 P2 P3 u) : u.cell? ⟨g, 1, none⟩ = some b ∧ u.cell? ⟨g, 3, none⟩ = some d := ⟨h.e.cells.2.1, h.e.cells.2.2.2⟩
theorem HP.acells (h : HP w ws g a b c d P1 P2 P3 u) (o : Obj) : (u.alloc o).cell? ⟨g, 1, none⟩ = some b ∧ (u.alloc o).cell? ⟨g, 3, none⟩ = some d := ⟨(h.e.after (below_alloc (Below.refl _ _) o)).cells.2.1, (h.e.after (below_alloc (Below.refl _ _) o)).cells.2.2.2⟩
theorem HP.drew (h : HP w ws g a b c d P1 P2 P3 u) : HP w ws g a b c d P1 P2 P3 u.drew := ⟨h.e.after (Below.drew (Below.refl _ _)), below_next' h.s (Below.drew (Below.refl _ _)), fun v k => h.p v (below_next' (Below.drew (Below.refl _ _)) k)⟩
end
theorem insS_none {w : World} {A : Option Addr} {l : List Ins} (h : InsS w A l) : A = none → l.length = 0 := fun hA => by
  rcases Nat.eq_zero_or_pos l.length with k | k
  · exact k
  · obtain ⟨g, o, e, _⟩ := h k
    rw [hA] at e
    cases e
theorem defS_none {w : World} {A : Option Addr} {l : List Df} (h : DefS w A l) : A = none → l.length = 0 := fun hA => by
  rcases Nat.eq_zero_or_pos l.length with k | k
  · exact k
  · obtain ⟨g, o, e, _⟩ := h k
    rw [hA] at e
    cases e
theorem numS_none {w : World} {A : Option Addr} {l : List Int} (h : NumS w A l) : A = none → l.length = 0 := fun hA => by
  rcases Nat.eq_zero_or_pos l.length with k | k
  · exact k
  · obtain ⟨g, o, e, _⟩ := h k
    rw [hA] at e
    cases e
set_option maxHeartbeats 16000000 in
theorem m11_New_yes (w : World) (l : List Ins) (A : Option Addr) (c : Nat) (E : EV) (h : InsS w A l) (hx : OkAll l) (hl : l.length ≤ 100000) (hc : l.length ≤ c) (hcm : c ≤ maxLen) (hE : EnvS w E) (hok : E.ok)
    (h1 : (chk l).2 = 0) (h2 : E.ctx.length ≤ 64) (h3 : E.L.length ≤ E.D.length) :
    Calls Tryz.prog 8 #[.slice A l.length c, envV E] w (NewM (mMade l E.D (itLs E.L) E.dr (tNew (memM E.ctx) E.D)) w) := by
  have CK := Lib.hid fun u (b : Below w.heap.size w u) => c7_Check l A c u hl (h.after b) hx
  rw [h1] at CK
  have MEM := Lib.hid fun u (b : Below w.heap.size w u) => m11_memory u E.ca E.ctx E.cc (hE.after b).c hok.c.1 h2 hok.c.2.1 hok.c.2.2
  have NW := Lib.hid fun u g F (hr : RepP u g (memM E.ctx) F) (hd : ∀ v, Turn F u v → DefS v E.da E.D) => q9_New u g (memM E.ctx) F E.D E.da E.D.length E.dc hr hd rfl hok.d.1 hok.d.2 (by simp [memM])
  have FI := Lib.hid fun u gt gm T M H (hr : (sysT gt gm T M).R u H) h8 hM (HI : ∀ v, Turn H u v → IsS v E.ia E.L) (h9 : E.L.length ≤ 8) => m11_filled u gt gm T M H E.ia E.L E.ic hr h8 hM HI hok.i.1 h9 hok.i.2.1 hok.i.2.2
  have OK0 := Lib.hid fun T (hT : (tNew (memM E.ctx) E.D).2 = some T) => m0_ok hx h1 hok.i.1 h3 ⟨hok.n.1, hok.n.2.1⟩ hT
  have EN := Lib.hid fun u (b : Below w.heap.size w u) => hE.after b
  have C1 := Lib.hid fun u (b : Below w.heap.size w u) => clone_insn u A l.length c (inC l) (inC_len l) (inS_news (h.after b)) (inC_one l) (insS_none h) (by omega) hc hcm
  have C2 := Lib.hid fun u (b : Below w.heap.size w u) (h8 : E.D.length ≤ 8) => clone_def u E.da E.D.length E.dc (dfCM E.D) (dfM_len E.D) (dfS_news (hE.after b).d) (dfM_one E.D) (defS_none hE.d) (by omega) hok.d.1 hok.d.2
  have C3 := Lib.hid fun u (b : Below w.heap.size w u) => clone_num u E.na E.dr.length E.nc (nuC E.dr) (by rw [nuC_len, Nat.mul_one]) (nuS_news (hE.after b).n) (nuC_one E.dr) (numS_none hE.n) (by have := hok.n.2.1; omega) hok.n.2.2.1 hok.n.2.2.2
  obtain ⟨ctx, ca, cc, D, da, dc, L, ia, ic, dr, na, nc⟩ := E
  unfold envV
  have b4 := hok.c.2
  have b5 := hok.d
  have b6 := hok.i.2
  have b7 := hok.n.2
  dsimp only at *
  have Q := Lib.hid (EQ.new w (.slice ca ctx.length cc) (.slice da D.length dc) (.slice ia L.length ic) (.slice na dr.length nc))
  clear h hx hE hok h1
  unfold maxLen at hcm b4 b5 b6 b7
  generalize (chk l).1 = aa at *
  generalize memM ctx = MB at *
  generalize tNew MB D = N at *
  obtain ⟨M1, o⟩ := N
  cases o with
  | none =>
    unfold mMade NewM
    dsimp only at *
    clear FI OK0 C1 C2 C3
    go_enter Tryz.func8, Tryz.ntmps8
    go_wp2_with fail
    refine (CK.out _ Q.out.bl).mono ?_
    rintro e w2 ⟨rfl, b2⟩
    replace Q := Lib.hid (Q.out.after b2)
    obtain ⟨e0, e1, e2, e3⟩ := Q.out.cells
    clear b2
    go_wp2_with fail
    refine (MEM.out _ Q.out.bl).mono ?_
    rintro e w3 ⟨gm, F, rfl, r3, b3, f3⟩
    have F3 : Hid (∀ x, F x → w.heap.size < x) := Lib.hid fun x hx => Nat.lt_of_lt_of_le Q.out.x.lt (f3 x hx)
    replace Q := Lib.hid (Q.out.after b3)
    have NQ := Lib.hid (NW.out _ gm F r3 (fun v t => (EN.out v (Q.out.turn t F3.out).bl).d))
    clear e0 e1 e2 e3 r3 b3 f3 NW MEM CK
    obtain ⟨e0, e1, e2, e3⟩ := Q.out.cells
    go_wp2_with fail
    refine (NQ.out).mono ?_
    rintro e w4 ⟨G', t4, f4, rfl, r4⟩
    replace Q := Lib.hid (Q.out.turn t4 F3.out)
    clear e0 e1 e2 e3 t4 f4 r4
    obtain ⟨e0, e1, e2, e3⟩ := Q.out.cells
    go_wp2_with fail
    go_ret2
    exact ⟨rfl, Q.out.bl⟩
  | some T =>
    obtain ⟨ok0, hr, hTl, hM1⟩ := OK0.out T rfl
    unfold tRight at hr
    simp only [Bool.and_eq_true, decide_eq_true_eq] at hr
    have hD8 := hr.2
    have hM2 : M1.length ≤ 130 := hM1
    have OKM := Lib.hid ok0
    have FI2 := Lib.hid fun u gt gm H (hr : (sysT gt gm T M1).R u H) (HI : ∀ v, Turn H u v → IsS v ia L) => FI.out u gt gm T M1 H hr (by omega) (by omega) HI (by omega)
    have C22 := Lib.hid fun u (b : Below w.heap.size w u) => C2.out u b hD8
    clear FI OK0 ok0 hr hTl hM1 hM2 C2
    unfold mMade
    dsimp only at *
    generalize mFill 0 (itLs L) T M1 = R at *
    obtain ⟨T2, M2, ok2⟩ := R
    dsimp only at *
    cases ok2
    · rw [if_neg Bool.false_ne_true]
      unfold NewM
      clear C1 C22 C3 OKM
      go_enter Tryz.func8, Tryz.ntmps8
      go_wp2_with fail
      refine (CK.out _ Q.out.bl).mono ?_
      rintro e w2 ⟨rfl, b2⟩
      replace Q := Lib.hid (Q.out.after b2)
      obtain ⟨e0, e1, e2, e3⟩ := Q.out.cells
      clear b2
      go_wp2_with fail
      refine (MEM.out _ Q.out.bl).mono ?_
      rintro e w3 ⟨gm, F, rfl, r3, b3, f3⟩
      have F3 : Hid (∀ x, F x → w.heap.size < x) := Lib.hid fun x hx => Nat.lt_of_lt_of_le Q.out.x.lt (f3 x hx)
      replace Q := Lib.hid (Q.out.after b3)
      have NQ := Lib.hid (NW.out _ gm F r3 (fun v t => (EN.out v (Q.out.turn t F3.out).bl).d))
      clear e0 e1 e2 e3 r3 b3 f3 NW MEM CK
      obtain ⟨e0, e1, e2, e3⟩ := Q.out.cells
      go_wp2_with fail
      refine (NQ.out).mono ?_
      rintro e w4 ⟨G', t4, f4, gt, F', rfl, r4, f5⟩
      have F4 : Hid (∀ x, (F' x ∨ G' x) → w.heap.size < x) := Lib.hid fun x hx => by
        rcases hx with c | c
        · exact Nat.lt_of_lt_of_le Q.out.x.lt (f5 x c)
        · rcases f4 x c with c | c
          · exact F3.out x c
          · exact Nat.lt_of_lt_of_le Q.out.x.lt c
      replace Q := Lib.hid (Q.out.turn t4 F3.out)
      have FQ := Lib.hid (FI2.out w4 gt gm (fun x => F' x ∨ G' x) ⟨F', G', r4, fun x => Iff.rfl⟩ (fun v t => (EN.out v (Q.out.turn t F4.out).bl).i))
      clear e0 e1 e2 e3 t4 f4 r4 f5 NQ F3 FI2
      obtain ⟨e0, e1, e2, e3⟩ := Q.out.cells
      go_wp2_with fail
      refine (FQ.out).mono ?_
      rintro e w5 ⟨rfl, F5, r5, t5, f5⟩
      replace Q := Lib.hid (Q.out.turn t5 F4.out)
      clear e0 e1 e2 e3 r5 t5 f5
      obtain ⟨e0, e1, e2, e3⟩ := Q.out.cells
      go_wp2_with fail
      go_ret2
      exact ⟨rfl, Q.out.bl⟩
    · rw [if_pos rfl]
      unfold NewM
      have SR := Lib.hid fun u g H (h : (sysX g (m0 l D T2 M2 dr)).R u H) => m11_setReg u g _ H 1 (atI 1 0) h (by omega) (by decide)
      have SR2 := Lib.hid fun u g H (h : (sysX g (setR (m0 l D T2 M2 dr) 1 (atI 1 0))).R u H) => m11_setReg u g _ H 10 (atI 2 512) h (by omega) (by decide)
      have A1 := Lib.hid fun u => c8_At 1 0 u
      have A2 := Lib.hid fun u => c8_At 2 512 u
      have MK := Lib.hid fun u gt gm B a1 a2 a3 c1 c2 c3 H (h : (sysT gt gm T2 M2).R u H) (hH : ∀ x, H x → x < B) (p : PartsS B l D dr a1 a2 a3 c1 c2 c3 u) => sysX_make h hH p OKM.out
      clear OKM
      go_enter Tryz.func8, Tryz.ntmps8
      go_wp2_with fail
      refine (CK.out _ Q.out.bl).mono ?_
      rintro e w2 ⟨rfl, b2⟩
      replace Q := Lib.hid (Q.out.after b2)
      obtain ⟨e0, e1, e2, e3⟩ := Q.out.cells
      clear b2
      go_wp2_with fail
      refine (MEM.out _ Q.out.bl).mono ?_
      rintro e w3 ⟨gm, F, rfl, r3, b3, f3⟩
      have F3 : Hid (∀ x, F x → w.heap.size < x) := Lib.hid fun x hx => Nat.lt_of_lt_of_le Q.out.x.lt (f3 x hx)
      replace Q := Lib.hid (Q.out.after b3)
      have NQ := Lib.hid (NW.out _ gm F r3 (fun v t => (EN.out v (Q.out.turn t F3.out).bl).d))
      clear e0 e1 e2 e3 r3 b3 f3 NW MEM CK
      obtain ⟨e0, e1, e2, e3⟩ := Q.out.cells
      go_wp2_with fail
      refine (NQ.out).mono ?_
      rintro e w4 ⟨G', t4, f4, gt, F', rfl, r4, f5⟩
      have F4 : Hid (∀ x, (F' x ∨ G' x) → w.heap.size < x) := Lib.hid fun x hx => by
        rcases hx with c | c
        · exact Nat.lt_of_lt_of_le Q.out.x.lt (f5 x c)
        · rcases f4 x c with c | c
          · exact F3.out x c
          · exact Nat.lt_of_lt_of_le Q.out.x.lt c
      replace Q := Lib.hid (Q.out.turn t4 F3.out)
      have FQ := Lib.hid (FI2.out w4 gt gm (fun x => F' x ∨ G' x) ⟨F', G', r4, fun x => Iff.rfl⟩ (fun v t => (EN.out v (Q.out.turn t F4.out).bl).i))
      clear e0 e1 e2 e3 t4 f4 r4 f5 NQ F3 FI2
      obtain ⟨e0, e1, e2, e3⟩ := Q.out.cells
      go_wp2_with fail
      refine (FQ.out).mono ?_
      rintro e w5 ⟨rfl, F5, r5, t5, f5⟩
      have F6 : Hid (∀ x, F5 x → w.heap.size < x) := Lib.hid fun x hx => by
        rcases f5 x hx with c | c
        · exact F4.out x c
        · exact Nat.lt_of_lt_of_le Q.out.x.lt c
      replace Q := Lib.hid (Q.out.turn t5 F4.out)
      have RS := Lib.hid r5
      clear e0 e1 e2 e3 r5 t5 f5 F4 FQ
      obtain ⟨e0, e1, e2, e3⟩ := Q.out.cells
      go_wp2_with fail
      have HB : HP w w5 w.heap.size (.slice ca ctx.length cc) (.slice da D.length dc) (.slice ia L.length ic) (.slice na dr.length nc) (fun _ => True) (fun _ => True) (fun _ => True) w5.drew := HP.drew ⟨Q.out, Below.refl _ _, fun _ _ => ⟨trivial, trivial, trivial⟩⟩
      clear e0 e1 e2 e3
      go_region_held3 (fun w' => w'.cell? ⟨w.heap.size, 1, none⟩ = some (.slice da D.length dc) ∧ w'.cell? ⟨w.heap.size, 3, none⟩ = some (.slice na dr.length nc))
        (first | exact HB.cells | exact HB.acells _)
        (first
          | (go_at_call 24; refine (C1.out _ HB.e.bl).mono ?_; rintro e w6 ⟨y1, z1, rfl, o6, b6⟩; replace HB := HB.one b6 o6; clear b6 o6)
          | (go_at_call 25; refine (C22.out _ HB.e.bl).mono ?_; rintro e w6 ⟨y2, z2, rfl, o6, b6⟩; replace HB := HB.two b6 o6; clear b6 o6)
          | (go_at_call 26; refine (C3.out _ HB.e.bl).mono ?_; rintro e w6 ⟨y3, z3, rfl, o6, b6⟩; replace HB := HB.three b6 o6; clear b6 o6))
      rename_i hh
      clear hh
      obtain ⟨X, hX, fX⟩ := MK.out w6 gt gm w5.heap.size y1 y2 y3 z1 z2 z3 F5 ((sysT gt gm T2 M2).after RS.out HB.s) (fun x hx => (sysT gt gm T2 M2).lt RS.out hx) ⟨(HB.p w6 (Below.refl _ _)).1, (HB.p w6 (Below.refl _ _)).2.1, (HB.p w6 (Below.refl _ _)).2.2⟩
      replace hX : (sysX w6.heap.size (m0 l D T2 M2 dr)).R (w6.alloc (.cells #[.slice y1 l.length z1, .slice y2 D.length z2, .pointer (some ⟨gm, 0, none⟩), .pointer (some ⟨gt, 0, none⟩), .slice y3 dr.length z3, .int .u64 0, .bool false, .int .u64 0, .bool false, .int .u64 0, .bool false, .int .u64 0, .bool false, .int .u64 0, .bool false, .int .u64 0, .bool false, .int .u64 0, .bool false, .int .u64 0, .bool false, .int .u64 0, .bool false, .int .u64 0, .bool false, .int .u64 0, .bool false, .int .i64 0, .bool false, .int .i64 0, .int .i64 0, .slice none 0 0] 80)) X := hX
      have HX := Lib.hid hX
      have FX : Hid (∀ x, X x → w.heap.size ≤ x) := Lib.hid fun x hx => by
        rcases fX x hx with c | c | c
        · exact Nat.le_of_lt (F6.out x c)
        · exact Nat.le_trans Q.out.bl.size c
        · exact Nat.le_trans HB.e.bl.size c
      have BB := Lib.hid (below_alloc HB.e.bl (.cells #[.slice y1 l.length z1, .slice y2 D.length z2, .pointer (some ⟨gm, 0, none⟩), .pointer (some ⟨gt, 0, none⟩), .slice y3 dr.length z3, .int .u64 0, .bool false, .int .u64 0, .bool false, .int .u64 0, .bool false, .int .u64 0, .bool false, .int .u64 0, .bool false, .int .u64 0, .bool false, .int .u64 0, .bool false, .int .u64 0, .bool false, .int .u64 0, .bool false, .int .u64 0, .bool false, .int .u64 0, .bool false, .int .i64 0, .bool false, .int .i64 0, .int .i64 0, .slice none 0 0] 80))
      clear hX fX MK HB Q RS F6 C1 C22 C3 EN
      generalize (w6.alloc (.cells #[.slice y1 l.length z1, .slice y2 D.length z2, .pointer (some ⟨gm, 0, none⟩), .pointer (some ⟨gt, 0, none⟩), .slice y3 dr.length z3, .int .u64 0, .bool false, .int .u64 0, .bool false, .int .u64 0, .bool false, .int .u64 0, .bool false, .int .u64 0, .bool false, .int .u64 0, .bool false, .int .u64 0, .bool false, .int .u64 0, .bool false, .int .u64 0, .bool false, .int .u64 0, .bool false, .int .u64 0, .bool false, .int .i64 0, .bool false, .int .i64 0, .int .i64 0, .slice none 0 0] 80)) = w7 at *
      generalize w6.heap.size = gx at *
      go_wp2_with fail
      refine (A1.out _).mono ?_
      rintro e w8 ⟨rfl, b8⟩
      have SQ := Lib.hid (SR.out w8 gx X (Sys.after _ HX.out b8))
      replace BB := Lib.hid (below_next' BB.out b8)
      clear b8 HX A1 SR
      go_wp2_with fail
      refine (SQ.out).mono ?_
      rintro e w9 ⟨rfl, F9, r9, t9, f9⟩
      have FY : Hid (∀ x, F9 x → w.heap.size ≤ x) := Lib.hid fun x hx => by
        rcases f9 x hx with c | c
        · exact FX.out x c
        · exact Nat.le_trans BB.out.size c
      replace BB := Lib.hid (Turn.on BB.out t9 BB.out.size FX.out)
      have HX := Lib.hid r9
      clear r9 t9 f9 FX SQ
      go_wp2_with fail
      refine (A2.out _).mono ?_
      rintro e w10 ⟨rfl, b8⟩
      have SQ := Lib.hid (SR2.out w10 gx F9 (Sys.after _ HX.out b8))
      replace BB := Lib.hid (below_next' BB.out b8)
      clear b8 HX A2 SR2
      go_wp2_with fail
      refine (SQ.out).mono ?_
      rintro e w11 ⟨rfl, F11, r9, t9, f9⟩
      have FX : Hid (∀ x, F11 x → w.heap.size ≤ x) := Lib.hid fun x hx => by
        rcases f9 x hx with c | c
        · exact FY.out x c
        · exact Nat.le_trans BB.out.size c
      replace BB := Lib.hid (Turn.on BB.out t9 BB.out.size FY.out)
      have HX := Lib.hid r9
      clear r9 t9 f9 FY SQ
      go_wp2_with fail
      go_ret2
      exact ⟨gx, F11, rfl, HX.out, BB.out, FX.out⟩
theorem m11_New (w : World) (l : List Ins) (A : Option Addr) (c : Nat) (E : EV) (h : InsS w A l) (hx : OkAll l) (hl : l.length ≤ 100000) (hc : l.length ≤ c) (hcm : c ≤ maxLen) (hE : EnvS w E) (hok : E.ok) :
    Calls Tryz.prog 8 #[.slice A l.length c, envV E] w (NewM (mNew l E.ctx E.D (itLs E.L) E.dr) w) := by
  have hil : (itLs E.L).length = E.L.length := by unfold itLs; rw [List.length_map]
  unfold mNew
  rw [hil]
  cases q : ((chk l).2 == 0 && (decide (E.ctx.length ≤ 64) && decide (E.L.length ≤ E.D.length)))
  · rw [if_neg Bool.false_ne_true]
    exact m11_New_no w l A c E h hx hl hc hcm q
  · rw [if_pos rfl]
    simp only [Bool.and_eq_true, beq_iff_eq, decide_eq_true_eq] at q
    exact m11_New_yes w l A c E h hx hl hc hcm hE hok q.1 q.2.1 q.2.2
end Go.Proofs.YtlbhffdpklbhfaaGreat
