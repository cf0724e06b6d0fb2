/-
  The statement HelpOwn, walked: what a helper is told is new each time, and may be told to it, with more behind it, but not with less.
  Conditions: the row lies where it is said to; the numbers fit their kinds.
-/
import Derived.Test.YtlgpollefkkbdaaHelp8
import Derived.Test.YtlgpollefkkbdaaBytOpen
import Derived.Deep.RegionHeld
import Derived.Deep.RegionHeld3
import Derived.Deep.DeepCutAuto
namespace Go.Proofs.Ytlgpollefkkbdaa
open Go.RowKit
set_option maxRecDepth 100000
set_option linter.unusedVariables false
set_option linter.unusedSimpArgs false

/-- Bytes appended to a row of its own. -/
theorem app_byt {w : World} {base : Nat} {v : Value} {xs : List Int} {n : Nat} (hv : w.ownsRow base 5 1 v n (byC xs)) (hb : base ≤ w.heap.size) (A : Option Addr) (c m : Nat) (r : List Int) (hm : r.length = m) (hr : BytS w A r) (hn : n ≤ 1000) (hs : r.length ≤ 1000) (hA : A = none → c = 0) :
    ∃ v2 u2, (Builtin.append_ #[23, 23] 23 #[v, .slice A m c]).run Try.prog w = .ok v2 u2 ∧ u2.ownsRow base 5 1 v2 (n + m) (byC (xs ++ r)) ∧ w.grownBy u2 v.ownBlock := by
  subst hm
  obtain ⟨i0, hi, hz, h1, h2⟩ := info_parts (show (Try.prog.info? 5).map (fun i => (i.zero, i.size, i.bytes)) = some (some (.int .u8 0), 1, 1) by kernel_rfl)
  rw [byC_app]
  by_cases h0 : 0 < r.length
  · obtain ⟨g, o, rfl, hg, hc⟩ := hr h0
    obtain ⟨v2, u2, e1, e2, e3, -⟩ := run_append_own (P := Try.prog) w base 23 23 5 i0 (.int .u8 0) 1 1 Try.underlying23 hi hz h1 h2 rfl (by omega) v n (byC xs) hv ⟨g, o, none⟩ r.length c (byC r) (by rw [byC_len]; omega) (byt_news ⟨hg, hc⟩) (byC_one r) (by unfold maxLen; omega) (by omega) hb
    exact ⟨v2, u2, e1, e2, e3⟩
  · have e : r = [] := List.eq_nil_of_length_eq_zero (by omega)
    subst e
    cases A with
    | some a =>
      obtain ⟨v2, u2, e1, e2, e3, -⟩ := run_append_own (P := Try.prog) w base 23 23 5 i0 (.int .u8 0) 1 1 Try.underlying23 hi hz h1 h2 rfl (by omega) v n (byC xs) hv a 0 c [] (by simp) (fun j u hu => by simp at hu) (fun u hu => by simp at hu) (by unfold maxLen; omega) (by omega) hb
      exact ⟨v2, u2, e1, e2, e3⟩
    | none =>
      rw [hA rfl]
      refine ⟨v, w, run_append_owned_none (P := Try.prog) w base 23 23 5 i0 1 Try.underlying23 hi v n (byC xs) hv, ?_, ⟨rfl, rfl, rfl, Nat.le_refl _, fun _ _ _ => rfl⟩⟩
      simpa [byC] using hv
theorem own_cap {w : World} {base size n c : Nat} {e : TypeId} {A : Option Addr} {xs : List Value} (h : w.ownsRow base e size (.slice A n c) n xs) : A = none → c = 0 := fun hA => by
  subst hA
  rcases h.2 with ⟨e1, _⟩ | ⟨g, cap, cur, e1, _⟩
  · injection e1
  · injection e1 with e2; cases e2
theorem own_byte {w : World} {base : Nat} {A : Option Addr} {c n : Nat} {xs : List Value} (h : w.ownsRow base 5 1 (.slice A n c) n xs) (hn : 0 < n) : ∃ g cur, A = some ⟨g, 0, none⟩ ∧ base ≤ g ∧ Blk g cur 5 w ∧ n ≤ cur.size := by
  rcases h.2 with ⟨e, rfl⟩ | ⟨g, cap, cur, e, hb, hg, h1, h2, h3, h4⟩
  · omega
  · injection e with e1 e2 e3
    exact ⟨g, cur, e1, hb, hg, by omega⟩
theorem hPre_app (T p : List Int) : hPre (T ++ p) T = true := by
  unfold hPre
  rw [decide_eq_true (by simp), Bool.true_and, List.take_left, beq_iff_eq]
theorem hPre_less {T : List Int} {m : Nat} (h : m < T.length) : hPre (T.take m) T = false := by
  unfold hPre
  rw [decide_eq_false (by rw [List.length_take]; omega), Bool.false_and]

set_option maxHeartbeats 1000000 in
theorem l10_HelpOwn (i : Int) (more : List Int) (B : Option Addr) (d : Nat) (w : World) (hm : BytS w B more) (hmo : OkB more) (hmd : more.length ≤ d) (hd : d ≤ maxLen) (hB : B = none → d = 0) :
    Calls Try.prog 5 #[.int .i64 i, .slice B more.length d] w (Fine w) := by
  have SH := Lib.hid l10_shown
  have S1 := Lib.hid fun u => h10_Sig i u
  obtain ⟨HT1, HT2⟩ := hS_told i
  have RW : Hid (∀ p A n c u, p.length = n → n ≤ c → c ≤ maxLen → BytS u A p → OkB p → Calls Try.prog 15 #[.int .i64 i, .slice A n c] u (Gives (.bool (hRt i p)) u)) := Lib.hid fun p A n c u h1 h2 h3 h4 h5 => h10_Right i p A n c u h1 h2 h3 h4 h5
  have HR : Hid (∀ p, hRt i p = (hOk i && hPre p (hS i).told)) := Lib.hid fun p => rfl
  have HZ : hOk i = false → (hS i).told = [] := fun h => by
    rcases hS_ways i with rfl | rfl | rfl | rfl | rfl | rfl | rfl | h'
    all_goals first | exact absurd h (by decide) | skip
    rw [(hS_none h').1]
  generalize hOk i = ok at *
  generalize hS i = S at *
  obtain ⟨T, tells, draws, most⟩ := S
  unfold SigW sgV at S1
  dsimp only at *
  cases ok
  · have e := HZ rfl
    subst e
    have R0 : Hid (∀ u, Below w.heap.size w u → Calls Try.prog 15 #[.int .i64 i, .slice B more.length d] u (Gives (.bool false) u)) := Lib.hid fun u b => by
      have := RW.out more B more.length d u rfl hmd hd (hm.after b) hmo
      rwa [HR.out, Bool.false_and] at this
    rw [show ([] : List Int).length = 0 from rfl] at S1
    clear hm hmo RW HR HT1 HT2 HZ
    generalize more.length = n at *
    go_enter Try.func5, Try.ntmps5
    go_wp2_with fail
    refine (SH.out _).mono ?_
    rintro e w1 ⟨rfl, b1⟩
    have V := Lib.hid b1
    clear b1
    go_wp2_with fail
    refine (S1.out _).mono ?_
    rintro e w2 ⟨A1, c1, rfl, b2, o2⟩
    replace V := Lib.hid (below_next' V.out b2)
    clear b2 o2
    have Z1 := Lib.hid (Blk.new w2 #[.slice A1 0 c1, .int .u8 tells, .bool draws, .int .u64 most] 26 rfl)
    replace V := Lib.hid (below_alloc V.out (.cells #[.slice A1 0 c1, .int .u8 tells, .bool draws, .int .u64 most] 26))
    go_wp2_with fail
    refine (R0.out _ V.out).mono ?_
    rintro e w3 ⟨rfl, b3⟩
    replace V := Lib.hid (below_next' V.out b3)
    have z0 := Blk.cell (Z1.out.after b3) 0
    clear b3
    go_wp2_with fail
    go_ret
    exact ⟨rfl, V.out⟩
  clear HZ
  simp only [Bool.true_and] at HR
  have hk : (more.take 20).length = min 20 more.length := List.length_take
  have hif1 : (if (20 : Int) < more.length then (20 : Int) else more.length) = (more.take 20).length := by omega
  have hzd : (more.take 20).length ≤ d := by omega
  have hz1 : (more.take 20).length ≤ 20 := by omega
  have HP := Lib.hid (bytS_take hm 20)
  have HPO := Lib.hid (okB_take hmo 20)
  clear hm hmo hmd hk
  generalize more.take 20 = p at *
  have hmp : (p.length : Int) ≤ more.length := by omega
  generalize more.length = n at *
  generalize hzz : p.length = z at *
  have HZ := Lib.hid hzz
  clear hzz
  generalize htt : T.length = tl at *
  have HTL := Lib.hid htt
  have HTO := Lib.hid HT2
  clear htt HT2
  have AP1 : Hid (∀ u A c, BytS u A T → (A = none → c = 0) → ∃ v2 u2, (Builtin.append_ #[23, 23] 23 #[.slice (some ⟨u.heap.size, 0, none⟩) 0 0, .slice A tl c]).run Try.prog (u.alloc (.cells #[] 5)) = .ok v2 u2 ∧ u2.ownsRow u.heap.size 5 1 v2 tl (byC T) ∧ Below u.heap.size u u2) := Lib.hid fun u A c h hA => by
    have b2 := below_alloc (Below.refl u.heap.size u) (.cells #[] 5)
    have hown : (u.alloc (.cells #[] 5)).ownsRow u.heap.size 5 1 (.slice (some ⟨u.heap.size, 0, none⟩) 0 0) 0 (byC []) := World.ownsRow_made u #[] 0 (Nat.le_refl _) (Nat.zero_le _) rfl
    obtain ⟨v2, u2, e1, e2, e3⟩ := app_byt hown b2.size A c tl T HTL.out (h.after b2) (by omega) (by rw [HTL.out]; omega) hA
    rw [Nat.zero_add, List.nil_append] at e2
    exact ⟨v2, u2, e1, e2, below_own b2 hown b2.size e3⟩
  have AP2 : Hid (∀ B0 u v, B0 ≤ u.heap.size → Below w.heap.size w u → u.ownsRow B0 5 1 v tl (byC T) → ∃ v2 u2, (Builtin.append_ #[23, 23] 23 #[v, .slice B z d]).run Try.prog u = .ok v2 u2 ∧ u2.ownsRow B0 5 1 v2 (tl + z) (byC (T ++ p)) ∧ Below B0 u u2) := Lib.hid fun B0 u v hb b hown => by
    obtain ⟨v2, u2, e1, e2, e3⟩ := app_byt hown hb B d z p HZ.out (HP.out.after b) (by omega) (by rw [HZ.out]; omega) hB
    exact ⟨v2, u2, e1, e2, below_own (Below.refl _ _) hown hb e3⟩
  have a1 : (0 : Int) ≤ z := by omega
  have a2 : (z : Int) ≤ d := by omega
  have a3 : (0 : Int) ≤ tl := by omega
  have a4 : (tl : Int) ≤ 4 := by omega
  clear hB
  go_enter Try.func5, Try.ntmps5
  go_wp2_with fail
  refine (SH.out _).mono ?_
  rintro e w1 ⟨rfl, b1⟩
  have V := Lib.hid b1
  have V1 := Lib.hid b1
  clear b1
  go_wp2_with fail
  refine (S1.out _).mono ?_
  rintro e w2 ⟨A1, c1, rfl, b2, o2⟩
  replace V := Lib.hid (below_next' V.out b2)
  clear b2
  have Z1 := Lib.hid (Blk.new w2 #[.slice A1 tl c1, .int .u8 tells, .bool draws, .int .u64 most] 26 rfl)
  have b3 := below_alloc (Below.refl w2.heap.size w2) (.cells #[.slice A1 tl c1, .int .u8 tells, .bool draws, .int .u64 most] 26)
  have O1 := Lib.hid (own_after o2 b3)
  have hlow1 := V.out.size
  have LOW1 : Hid (∀ g, A1 = some ⟨g, 0, none⟩ → w.heap.size ≤ g ∧ g < w2.heap.size) := Lib.hid fun g hg => by
    have := o2.lt g (by rw [hg]; rfl)
    have hs := V1.out.size
    exact ⟨by omega, this.2⟩
  have V3 := Lib.hid (below_next' V.out b3)
  clear o2 b3 V hlow1
  generalize hg1 : w2.heap.size = gs at *
  go_upto_region 5 with fail
  generalize w2.alloc (.cells #[.slice A1 tl c1, .int .u8 tells, .bool draws, .int .u64 most] 26) = w3 at *
  have z0 : w3.cell? ⟨gs, 0, none⟩ = some (.slice A1 tl c1) := Blk.cell Z1.out 0
  have z0' : (w3.alloc (.cells #[] 5)).cell? ⟨gs, 0, none⟩ = some (.slice A1 tl c1) := cell_then z0 (below_alloc (Below.refl _ _) _)
  obtain ⟨v4, w4, hr4, ho4, hb4⟩ := AP1.out w3 A1 c1 (own_bytS HTL.out.symm O1.out) (own_cap O1.out)
  obtain ⟨AT, ct, rfl, t1, t2⟩ := own_slice ho4
  unfold maxLen at t2
  have V4 := Lib.hid (below_next' V3.out hb4)
  have OT := Lib.hid ho4
  have Z4 := Lib.hid (Z1.out.after hb4)
  have O4 := Lib.hid (own_after O1.out hb4)
  have z4 : w4.cell? ⟨gs, 0, none⟩ = some (.slice A1 tl c1) := Blk.cell Z4.out 0
  go_wp2_with ((at_builtin; refine Lib.wpList_append_run _ rfl (.tmp 33) (.tmp 35) _ _ rfl _ _ rfl rfl _ _ hr4 ?_))
  have HS3 : Hid (gs < w3.heap.size ∧ w3.heap.size ≤ w4.heap.size) := Lib.hid ⟨Z1.out.lt, hb4.size⟩
  have LB : Hid (∀ g, A1 = some ⟨g, 0, none⟩ → 0 < tl → ∃ cur, Blk g cur 5 w4 ∧ tl ≤ cur.size) := Lib.hid fun g hg hr => by
    obtain ⟨g2, cur, e, hb, hk, hs⟩ := own_byte O4.out hr
    rw [hg] at e
    injection e with e
    injection e with e
    subst e
    exact ⟨cur, hk, hs⟩
  have LA : Hid (0 < tl → ∃ g, A1 = some ⟨g, 0, none⟩) := Lib.hid fun hr => by
    obtain ⟨g2, cur, e, -⟩ := own_byte O4.out hr
    exact ⟨g2, e⟩
  have hc1 : tl ≤ c1 := by
    obtain ⟨A', c', e, h1, h2⟩ := own_slice O4.out
    injection e with _ _ e
    omega
  clear hr4 ho4 hb4 z0 z0' V3 Z1 O1 hg1 V1 O4 AP1
  go_wp2_with fail
  go_loopw [40] (fun iv wr => ∃ j : Nat, iv = .int .i64 j ∧ j ≤ tl ∧ Hid (Turn (fun x => A1 = some ⟨x, 0, none⟩) w4 wr) ∧ Hid (∀ g, A1 = some ⟨g, 0, none⟩ → 0 < tl → ∃ cur, Blk g cur 5 wr ∧ tl ≤ cur.size)) (fun iv wr => tl - (intOf iv).toNat)
  case atStart => exact ⟨0, rfl, by omega, Lib.hid (Turn.refl _ _), Lib.hid LB.out⟩
  case round =>
    obtain ⟨j, rfl, hj, Q, HB⟩ := hrel
    have hj0 : (0 : Int) ≤ j := by omega
    have y0 : wr.cell? ⟨gs, 0, none⟩ = some (.slice A1 tl c1) := Blk.cell (Blk.same Z4.out (Q.out.block gs (by have := HS3.out; omega) (fun e => by have := (LOW1.out gs e).2; omega))) 0
    by_cases hlt : (j : Int) < tl
    · obtain ⟨g, rfl⟩ := LA.out (by omega)
      obtain ⟨cur, hcur, hsz⟩ := HB.out g rfl (by omega)
      obtain ⟨vv, s1⟩ : ∃ vv, wr.cell? ⟨g, j, none⟩ = some vv := ⟨cur[j]'(by omega), by rw [Blk.cell hcur j, Array.getElem?_eq_getElem (by omega)]⟩
      have s2 := Blk.free hcur j
      have Q2 := Lib.hid (Q.out.setCell (p := ⟨g, j, none⟩) (.inl rfl) (.int .u8 99))
      have HB2 : Hid (∀ g', (some (⟨g, 0, none⟩ : Addr)) = some ⟨g', 0, none⟩ → 0 < tl → ∃ cur, Blk g' cur 5 (wr.setCell ⟨g, j, none⟩ (.int .u8 99)) ∧ tl ≤ cur.size) := Lib.hid fun g' e _ => by
        injection e with e
        injection e with e
        subst e
        exact ⟨_, Blk.set hcur j _, by simpa using hsz⟩
      clear hcur hsz HB LB LA z4
      go_wp2_with fail
      go_round
      case rel => exact ⟨j + 1, by go_num, by omega, Q2, HB2⟩
      case measure => simp [intOf]; omega
    · have WW : Hid (Below w.heap.size w wr) := Lib.hid (Turn.on V4.out Q.out V4.out.size (fun x hx => (LOW1.out x hx).1))
      have OTW : Hid (wr.ownsRow w3.heap.size 5 1 (.slice AT tl ct) tl (byC T)) := Lib.hid (own_same OT.out (fun x hx => Q.out.block x (OT.out.lt x hx).2 (fun e => by have h1 := (OT.out.lt x hx).1; have h2 := (LOW1.out x e).2; have := HS3.out; omega)))
      clear HB LB LA Q Z4 y0 z4 OT V4 HS3
      go_wp2_with fail
      refine (S1.out _).mono ?_
      rintro e w5 ⟨A5, c5, rfl, b5, o5⟩
      have W5 := Lib.hid (below_next' WW.out b5)
      have T5 := Lib.hid (own_after OTW.out b5)
      clear b5 o5
      have Z6 := Lib.hid (Blk.new w5 #[.slice A5 tl c5, .int .u8 tells, .bool draws, .int .u64 most] 26 rfl)
      have B6 := Lib.hid (below_alloc (Below.refl w5.heap.size w5) (.cells #[.slice A5 tl c5, .int .u8 tells, .bool draws, .int .u64 most] 26))
      have W6 := Lib.hid (below_next' W5.out B6.out)
      have T6 := Lib.hid (own_after T5.out B6.out)
      clear WW OTW T5 W5 B6
      generalize hg5 : w5.heap.size = g5 at *
      go_upto_region 12 with fail
      clear hg5
      generalize w5.alloc (.cells #[.slice A5 tl c5, .int .u8 tells, .bool draws, .int .u64 most] 26) = w6 at *
      have QD : Hid (Below w6.heap.size w6 w6.drew) := Lib.hid (Below.drew (Below.refl _ _))
      have SD : Hid (∀ u, Below w6.heap.size w6 u → u.cell? ⟨g5, 0, none⟩ = some (.slice A5 tl c5)) := Lib.hid fun u b => Blk.cell (Z6.out.after b) 0
      have g5d : decide ((5 : Int) < tl) = false := decide_eq_false (by omega)
      have AP1' : Hid (∀ u, Below w6.heap.size w6 u → ∃ v2 u2, (Builtin.append_ #[23, 23] 23 #[.slice (some ⟨u.heap.size, 0, none⟩) 0 0, .slice AT tl ct]).run Try.prog (u.alloc (.cells #[] 5)) = .ok v2 u2 ∧ u2.ownsRow u.heap.size 5 1 v2 tl (byC T) ∧ Below u.heap.size u u2) := Lib.hid fun u b => by
        have hown0 := own_after T6.out b
        have b2 := below_alloc (Below.refl u.heap.size u) (.cells #[] 5)
        have hown : (u.alloc (.cells #[] 5)).ownsRow u.heap.size 5 1 (.slice (some ⟨u.heap.size, 0, none⟩) 0 0) 0 (byC []) := World.ownsRow_made u #[] 0 (Nat.le_refl _) (Nat.zero_le _) rfl
        obtain ⟨v2, u2, e1, e2, e3⟩ := app_byt hown b2.size AT ct tl T HTL.out ((own_bytS HTL.out.symm hown0).after b2) (by omega) (by rw [HTL.out]; omega) (own_cap hown0)
        rw [Nat.zero_add, List.nil_append] at e2
        exact ⟨v2, u2, e1, e2, below_own b2 hown b2.size e3⟩
      refine wp_region_held_drew (S := fun w' => w'.cell? ⟨g5, 0, none⟩ = some (.slice A5 tl c5)) (by kernel_rfl) (SD.out _ QD.out) (fun hHeld => ?_)
      generalize w6.drew = wd at *
      have VD := Lib.hid (below_next' W6.out QD.out)
      have QB := Lib.hid QD.out
      refine wpAnyH_take (i := 0) (oi := { dst := some 53, op := Op.fieldAddr 26 (Operand.tmp 10) 0, type := 0, pos := "law.go:71", after := #[], guard := none }) (v := ?_) rfl (by kernel_rfl) (by kernel_rfl) (by kernel_rfl) (fun _ _ _ h => h) (Or.inl ⟨by rfl, ?_⟩) (by first | exact hHeld | assumption) ?_
      rotate_left 1
      · intro w hSw; (try dsimp only at hSw); go_simp; try (with_reducible rfl)
      try simp only [Act.put, List.setIfInBounds_toArray, List.set_cons_zero, List.set_cons_succ]
      refine wpAnyH_take (i := 1) (oi := { dst := some 54, op := Op.load 23 (Operand.tmp 53), type := 23, pos := "law.go:71", after := #[{ on := 0, ground := Ground.data }], guard := none }) (v := ?_) rfl (by kernel_rfl) (by kernel_rfl) (by kernel_rfl) (fun _ _ _ h => h) (Or.inl ⟨by rfl, ?_⟩) (by first | exact hHeld | assumption) ?_
      rotate_left 1
      · intro w hSw; (try dsimp only at hSw); go_simp; try (with_reducible rfl)
      try simp only [Act.put, List.setIfInBounds_toArray, List.set_cons_zero, List.set_cons_succ]
      refine wpAnyH_take (i := 2) (oi := { dst := some 55, op := Op.call { callee := Callee.builtin Builtin.len, args := #[Operand.tmp 54], argTypes := #[23] }, type := 3, pos := "law.go:71", after := #[{ on := 1, ground := Ground.data }], guard := none }) (v := ?_) rfl (by kernel_rfl) (by kernel_rfl) (by kernel_rfl) (fun _ _ _ h => h) (Or.inl ⟨by rfl, ?_⟩) (by first | exact hHeld | assumption) ?_
      rotate_left 1
      · intro w hSw; (try dsimp only at hSw); go_simp; try (with_reducible rfl)
      try simp only [Act.put, List.setIfInBounds_toArray, List.set_cons_zero, List.set_cons_succ]
      refine wpAnyH_take (i := 3) (oi := { dst := some 56, op := Op.move (Operand.tmp 8), type := 23, pos := "law.go:71", after := #[], guard := none }) (v := ?_) rfl (by kernel_rfl) (by kernel_rfl) (by kernel_rfl) (fun _ _ _ h => h) (Or.inl ⟨by rfl, ?_⟩) (by first | exact hHeld | assumption) ?_
      rotate_left 1
      · intro w hSw; (try dsimp only at hSw); go_simp; try (with_reducible rfl)
      try simp only [Act.put, List.setIfInBounds_toArray, List.set_cons_zero, List.set_cons_succ]
      refine wpAnyH_take (i := 4) (oi := { dst := some 57, op := Op.call { callee := Callee.builtin Builtin.len, args := #[Operand.tmp 56], argTypes := #[23] }, type := 3, pos := "law.go:71", after := #[{ on := 3, ground := Ground.data }], guard := none }) (v := ?_) rfl (by kernel_rfl) (by kernel_rfl) (by kernel_rfl) (fun _ _ _ h => h) (Or.inl ⟨by rfl, ?_⟩) (by first | exact hHeld | assumption) ?_
      rotate_left 1
      · intro w hSw; (try dsimp only at hSw); go_simp; try (with_reducible rfl)
      try simp only [Act.put, List.setIfInBounds_toArray, List.set_cons_zero, List.set_cons_succ]
      refine wpAnyH_take (i := 5) (oi := { dst := some 58, op := Op.binOp BinOp.neq 3 (Operand.tmp 55) (Operand.tmp 57) 3, type := 4, pos := "law.go:71", after := #[{ on := 2, ground := Ground.data }, { on := 4, ground := Ground.data }], guard := none }) (v := ?_) rfl (by kernel_rfl) (by kernel_rfl) (by kernel_rfl) (fun _ _ _ h => h) (Or.inl ⟨by rfl, ?_⟩) (by first | exact hHeld | assumption) ?_
      rotate_left 1
      · intro w hSw; (try dsimp only at hSw); go_simp; try (with_reducible rfl)
      try simp only [Act.put, List.setIfInBounds_toArray, List.set_cons_zero, List.set_cons_succ]
      refine wpAnyH_take (i := 6) (oi := { dst := some 59, op := Op.move (Operand.tmp 58), type := 4, pos := "law.go:71", after := #[{ on := 5, ground := Ground.data }], guard := none }) (v := ?_) rfl (by kernel_rfl) (by kernel_rfl) (by kernel_rfl) (fun _ _ _ h => h) (Or.inl ⟨by rfl, ?_⟩) (by first | exact hHeld | assumption) ?_
      rotate_left 1
      · intro w hSw; (try dsimp only at hSw); go_simp; try (with_reducible rfl)
      try simp only [Act.put, List.setIfInBounds_toArray, List.set_cons_zero, List.set_cons_succ]
      refine wpAnyH_take (i := 7) (oi := { dst := some 60, op := Op.move (Operand.tmp 8), type := 23, pos := "law.go:71", after := #[{ on := 6, ground := Ground.guard }], guard := some (6, false) }) (v := ?_) rfl (by kernel_rfl) (by kernel_rfl) (by kernel_rfl) (fun _ _ _ h => h) (Or.inl ⟨by rfl, ?_⟩) (by first | exact hHeld | assumption) ?_
      rotate_left 1
      · intro w hSw; (try dsimp only at hSw); go_simp; try (with_reducible rfl)
      try simp only [Act.put, List.setIfInBounds_toArray, List.set_cons_zero, List.set_cons_succ]
      refine wpAnyH_take (i := 8) (oi := { dst := some 61, op := Op.call { callee := Callee.builtin Builtin.len, args := #[Operand.tmp 60], argTypes := #[23] }, type := 3, pos := "law.go:71", after := #[{ on := 7, ground := Ground.data }, { on := 6, ground := Ground.guard }], guard := some (6, false) }) (v := ?_) rfl (by kernel_rfl) (by kernel_rfl) (by kernel_rfl) (fun _ _ _ h => h) (Or.inl ⟨by rfl, ?_⟩) (by first | exact hHeld | assumption) ?_
      rotate_left 1
      · intro w hSw; (try dsimp only at hSw); go_simp; try (with_reducible rfl)
      try simp only [Act.put, List.setIfInBounds_toArray, List.set_cons_zero, List.set_cons_succ]
      refine wpAnyH_take (i := 9) (oi := { dst := some 62, op := Op.binOp BinOp.gtr 3 (Operand.tmp 61) (Operand.const (Value.int IntKind.i64 5)) 3, type := 4, pos := "law.go:71", after := #[{ on := 8, ground := Ground.data }, { on := 6, ground := Ground.guard }], guard := some (6, false) }) (v := ?_) rfl (by kernel_rfl) (by kernel_rfl) (by kernel_rfl) (fun _ _ _ h => h) (Or.inl ⟨by rfl, ?_⟩) (by first | exact hHeld | assumption) ?_
      rotate_left 1
      · intro w hSw; (try dsimp only at hSw); go_simp; try (with_reducible rfl)
      try simp only [Act.put, List.setIfInBounds_toArray, List.set_cons_zero, List.set_cons_succ]
      refine wpAnyH_take (i := 10) (oi := { dst := some 63, op := Op.pick (Operand.tmp 59) (Operand.const (Value.bool true)) (Operand.tmp 62), type := 4, pos := "law.go:71", after := #[{ on := 6, ground := Ground.data }, { on := 9, ground := Ground.data }], guard := none }) (v := ?_) rfl (by kernel_rfl) (by kernel_rfl) (by kernel_rfl) (fun _ _ _ h => h) (Or.inl ⟨by rfl, ?_⟩) (by first | exact hHeld | assumption) ?_
      rotate_left 1
      · intro w hSw; (try dsimp only at hSw); go_simp; try (with_reducible rfl)
      try simp only [Act.put, List.setIfInBounds_toArray, List.set_cons_zero, List.set_cons_succ]
      refine wpAnyH_take (i := 11) (oi := { dst := some 64, op := Op.move (Operand.tmp 63), type := 4, pos := "law.go:71", after := #[{ on := 10, ground := Ground.data }, { on := 6, ground := Ground.chain }], guard := none }) (v := ?_) rfl (by kernel_rfl) (by kernel_rfl) (by kernel_rfl) (fun _ _ _ h => h) (Or.inl ⟨by rfl, ?_⟩) (by first | exact hHeld | assumption) ?_
      rotate_left 1
      · intro w hSw; (try dsimp only at hSw); go_simp; try (with_reducible rfl)
      try simp only [Act.put, List.setIfInBounds_toArray, List.set_cons_zero, List.set_cons_succ]
      refine wpAnyH_take (i := 12) (oi := { dst := some 65, op := Op.move (Operand.tmp 0), type := 3, pos := "law.go:71", after := #[{ on := 11, ground := Ground.guard }], guard := some (11, false) }) (v := ?_) rfl (by kernel_rfl) (by kernel_rfl) (by kernel_rfl) (fun _ _ _ h => h) (Or.inl ⟨by rfl, ?_⟩) (by first | exact hHeld | assumption) ?_
      rotate_left 1
      · intro w hSw; (try dsimp only at hSw); go_simp; try (with_reducible rfl)
      try simp only [Act.put, List.setIfInBounds_toArray, List.set_cons_zero, List.set_cons_succ]
      refine wpAnyH_take (i := 14) (oi := { dst := some 67, op := Op.move (Operand.tmp 8), type := 23, pos := "law.go:71", after := #[{ on := 11, ground := Ground.guard }], guard := some (11, false) }) (v := ?_) rfl (by kernel_rfl) (by kernel_rfl) (by kernel_rfl) (fun _ _ _ h => h) (Or.inl ⟨by rfl, ?_⟩) (by first | exact hHeld | assumption) ?_
      rotate_left 1
      · intro w hSw; (try dsimp only at hSw); go_simp; try (with_reducible rfl)
      try simp only [Act.put, List.setIfInBounds_toArray, List.set_cons_zero, List.set_cons_succ]
      refine wpAnyH_take (i := 16) (oi := { dst := some 69, op := Op.move (Operand.tmp 1), type := 23, pos := "law.go:71", after := #[{ on := 11, ground := Ground.guard }], guard := some (11, false) }) (v := ?_) rfl (by kernel_rfl) (by kernel_rfl) (by kernel_rfl) (fun _ _ _ h => h) (Or.inl ⟨by rfl, ?_⟩) (by first | exact hHeld | assumption) ?_
      rotate_left 1
      · intro w hSw; (try dsimp only at hSw); go_simp; try (with_reducible rfl)
      try simp only [Act.put, List.setIfInBounds_toArray, List.set_cons_zero, List.set_cons_succ]
      refine wpAnyH_take (i := 17) (oi := { dst := some 70, op := Op.move (Operand.tmp 1), type := 23, pos := "law.go:71", after := #[{ on := 11, ground := Ground.guard }], guard := some (11, false) }) (v := ?_) rfl (by kernel_rfl) (by kernel_rfl) (by kernel_rfl) (fun _ _ _ h => h) (Or.inl ⟨by rfl, ?_⟩) (by first | exact hHeld | assumption) ?_
      rotate_left 1
      · intro w hSw; (try dsimp only at hSw); go_simp; try (with_reducible rfl)
      try simp only [Act.put, List.setIfInBounds_toArray, List.set_cons_zero, List.set_cons_succ]
      refine wpAnyH_take (i := 18) (oi := { dst := some 71, op := Op.call { callee := Callee.builtin Builtin.len, args := #[Operand.tmp 70], argTypes := #[23] }, type := 3, pos := "law.go:71", after := #[{ on := 17, ground := Ground.data }, { on := 11, ground := Ground.guard }], guard := some (11, false) }) (v := ?_) rfl (by kernel_rfl) (by kernel_rfl) (by kernel_rfl) (fun _ _ _ h => h) (Or.inl ⟨by rfl, ?_⟩) (by first | exact hHeld | assumption) ?_
      rotate_left 1
      · intro w hSw; (try dsimp only at hSw); go_simp; try (with_reducible rfl)
      try simp only [Act.put, List.setIfInBounds_toArray, List.set_cons_zero, List.set_cons_succ]
      refine wpAnyH_take (i := 19) (oi := { dst := some 72, op := Op.call { callee := Callee.builtin Builtin.min, args := #[Operand.tmp 71, Operand.const (Value.int IntKind.i64 20)], argTypes := #[3, 3] }, type := 3, pos := "law.go:71", after := #[{ on := 18, ground := Ground.data }, { on := 11, ground := Ground.guard }], guard := some (11, false) }) (v := ?_) rfl (by kernel_rfl) (by kernel_rfl) (by kernel_rfl) (fun _ _ _ h => h) (Or.inl ⟨by rfl, ?_⟩) (by first | exact hHeld | assumption) ?_
      rotate_left 1
      · intro w hSw; (try dsimp only at hSw); go_simp; try (with_reducible rfl)
      try simp only [Act.put, List.setIfInBounds_toArray, List.set_cons_zero, List.set_cons_succ]
      refine wpAnyH_take (i := 20) (oi := { dst := some 73, op := Op.slice 23 (Operand.tmp 69) none (some (Operand.tmp 72)) none, type := 23, pos := "law.go:71", after := #[{ on := 16, ground := Ground.data }, { on := 19, ground := Ground.data }, { on := 11, ground := Ground.guard }], guard := some (11, false) }) (v := ?_) rfl (by kernel_rfl) (by kernel_rfl) (by kernel_rfl) (fun _ _ _ h => h) (Or.inl ⟨by rfl, ?_⟩) (by first | exact hHeld | assumption) ?_
      rotate_left 1
      · intro w hSw; (try dsimp only at hSw); go_simp; try (with_reducible rfl)
      try simp only [Act.put, List.setIfInBounds_toArray, List.set_cons_zero, List.set_cons_succ]
      refine wpAnyH_ready (rs := [13]) (by kernel_rfl) (by simp) ?_
      refine AllReadyH.cons (o := { dst := some 66, op := Op.buildSlice 23 0 #[], type := 23, pos := "law.go:71", after := #[{ on := 11, ground := Ground.guard }], guard := some (11, false) }) rfl (fun K hK => ?_) AllReadyH.nil
      go_simp
      replace QB := Lib.hid (below_alloc QB.out (.cells #[] 5))
      refine hK.out _ _ (SD.out _ QB.out) (fun hHeld => ?_)
      clear hK K
      try simp only [Act.put, List.setIfInBounds_toArray, List.set_cons_zero, List.set_cons_succ]
      obtain ⟨v7, w7, hr7, ho7, hb7⟩ := AP1'.out wd QD.out
      replace QB := Lib.hid (below_next' QD.out hb7)
      refine wpAnyH_ready (rs := [15]) (by kernel_rfl) (by simp) ?_
      refine AllReadyH.cons (o := { dst := some 68, op := Op.call { callee := Callee.builtin Builtin.append, args := #[Operand.tmp 66, Operand.tmp 67], argTypes := #[23, 23] }, type := 23, pos := "law.go:71", after := #[{ on := 13, ground := Ground.data }, { on := 14, ground := Ground.data }, { on := 11, ground := Ground.chain }, { on := 11, ground := Ground.guard }], guard := some (11, false) }) rfl (fun K hK => ?_) AllReadyH.nil
      refine step_append_w (by kernel_rfl) (.tmp 66) (.tmp 67) _ _ rfl _ _ rfl rfl _ _ hr7 ?_
      refine hK.out _ _ (SD.out _ QB.out) (fun hHeld => ?_)
      clear hK K
      try simp only [Act.put, List.setIfInBounds_toArray, List.set_cons_zero, List.set_cons_succ]
      obtain ⟨v8, w8', hr8, ho8, hb8⟩ := AP2.out wd.heap.size w7 v7 hb7.size (below_next' W6.out QB.out) ho7
      obtain ⟨A8, c8, rfl, u1, u2⟩ := own_slice ho8
      replace QB := Lib.hid (below_next' QD.out (hb7.trans hb8))
      have B8 := Lib.hid ho8
      refine wpAnyH_ready (rs := [21]) (by kernel_rfl) (by simp) ?_
      refine AllReadyH.cons (o := { dst := some 74, op := Op.call { callee := Callee.builtin Builtin.append, args := #[Operand.tmp 68, Operand.tmp 73], argTypes := #[23, 23] }, type := 23, pos := "law.go:71", after := #[{ on := 15, ground := Ground.data }, { on := 20, ground := Ground.data }, { on := 15, ground := Ground.chain }, { on := 11, ground := Ground.guard }], guard := some (11, false) }) rfl (fun K hK => ?_) AllReadyH.nil
      refine step_append_w (by kernel_rfl) (.tmp 68) (.tmp 73) _ _ rfl _ _ rfl rfl _ _ hr8 ?_
      clear hr7 hr8 ho7 ho8 hb7 hb8
      refine hK.out _ _ (SD.out _ QB.out) (fun hHeld => ?_)
      clear hK K
      try simp only [Act.put, List.setIfInBounds_toArray, List.set_cons_zero, List.set_cons_succ]
      have RT := Lib.hid (RW.out (T ++ p) A8 (tl + z) c8 w8' (by rw [List.length_append, HTL.out, HZ.out]) u1 u2 (own_bytS (by rw [List.length_append, HTL.out, HZ.out]) B8.out) (okB_app HTO.out HPO.out))
      rw [HR.out, hPre_app] at RT
      refine wpAnyH_ready (rs := [22]) (by kernel_rfl) (by simp) ?_
      refine AllReadyH.cons (o := { dst := some 75, op := Op.call { callee := Callee.value (Operand.func 15), args := #[Operand.tmp 65, Operand.tmp 74], argTypes := #[3, 23] }, type := 4, pos := "law.go:71", after := #[{ on := 12, ground := Ground.data }, { on := 21, ground := Ground.data }, { on := 21, ground := Ground.chain }, { on := 11, ground := Ground.guard }], guard := some (11, false) }) rfl (fun K hK => ?_) AllReadyH.nil
      go_simp
      refine (RT.out).mono ?_; rintro e w8 ⟨rfl, b⟩
      replace QB := Lib.hid (below_next' QB.out b)
      clear b
      go_wp2_with fail
      refine hK.out _ _ (SD.out _ QB.out) (fun hHeld => ?_)
      clear hK K
      try simp only [Act.put, List.setIfInBounds_toArray, List.set_cons_zero, List.set_cons_succ]
      refine wpAnyH_take (i := 23) (oi := { dst := some 76, op := Op.unOp UnOp.not 4 (Operand.tmp 75), type := 4, pos := "law.go:71", after := #[{ on := 22, ground := Ground.data }, { on := 11, ground := Ground.guard }], guard := some (11, false) }) (v := ?_) rfl (by kernel_rfl) (by kernel_rfl) (by kernel_rfl) (fun _ _ _ h => h) (Or.inl ⟨by rfl, ?_⟩) (by first | exact hHeld | assumption) ?_
      rotate_left 1
      · intro w hSw; (try dsimp only at hSw); go_simp; try (with_reducible rfl)
      try simp only [Act.put, List.setIfInBounds_toArray, List.set_cons_zero, List.set_cons_succ]
      refine wpAnyH_take (i := 24) (oi := { dst := some 77, op := Op.pick (Operand.tmp 64) (Operand.const (Value.bool true)) (Operand.tmp 76), type := 4, pos := "law.go:71", after := #[{ on := 11, ground := Ground.data }, { on := 23, ground := Ground.data }], guard := none }) (v := ?_) rfl (by kernel_rfl) (by kernel_rfl) (by kernel_rfl) (fun _ _ _ h => h) (Or.inl ⟨by rfl, ?_⟩) (by first | exact hHeld | assumption) ?_
      rotate_left 1
      · intro w hSw; (try dsimp only at hSw); go_simp; try (with_reducible rfl)
      try simp only [Act.put, List.setIfInBounds_toArray, List.set_cons_zero, List.set_cons_succ]
      refine wpAnyH_done (by kernel_rfl) ?_ _
      clear hHeld SD AP1' AP2
      have W9 := Lib.hid (below_next' W6.out QB.out)
      have T9 := Lib.hid (own_after T6.out QB.out)
      clear QB QD VD W6 T6
      by_cases h0 : tl = 0
      · have f1 : ((tl : Int) == 0) = true := by rw [h0]; rfl
        clear h0
        go_wp2_with fail
        go_ret
        exact ⟨rfl, W9.out⟩
      · have f1 : ((tl : Int) == 0) = false := by
          rw [beq_eq_false_iff_ne]
          omega
        have f2 : IntKind.i64.wrap ((tl : Int) - 1) = ((tl - 1 : Nat) : Int) := by rw [IntKind.wrap_i64]; omega
        have f3 : (0 : Int) ≤ ((tl - 1 : Nat) : Int) := by omega
        have f4 : ((tl - 1 : Nat) : Int) ≤ ct := by omega
        have RL := Lib.hid (RW.out (T.take (tl - 1)) AT (tl - 1) ct w8 (by rw [List.length_take, HTL.out]; omega) (by omega) (by unfold maxLen; exact t2) (bytS_take (own_bytS HTL.out.symm T9.out) _) (okB_take HTO.out _))
        rw [HR.out, hPre_less (by rw [HTL.out]; omega)] at RL
        generalize tl - 1 = tm at *
        go_wp2_with fail
        refine (RL.out).mono ?_
        rintro e w10 ⟨rfl, b10⟩
        replace W9 := Lib.hid (below_next' W9.out b10)
        clear b10
        go_wp2_with fail
        go_ret
        exact ⟨rfl, W9.out⟩

end Go.Proofs.Ytlgpollefkkbdaa
