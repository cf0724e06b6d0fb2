/-
  The statement HelpLast, walked: what is drawn hangs on the first number alone, and none is taken off the list that was handed in.
  Conditions: the rows lie where they are said to; the numbers fit their kinds.
-/
import Derived.Test.YtlgpollefkkbdaaHelp8
import Derived.Test.YtlgpollefkkbdaaHelpOpen
import Derived.Deep.RegionHeld
import Derived.Deep.RegionHeld3
import Derived.Deep.DeepCutAuto
namespace Go.Proofs.Ytlgpollefkkbdaa
open Go.RowKit
set_option maxRecDepth 100000
set_option linter.unusedVariables false
set_option linter.unusedSimpArgs false

/-- Numbers appended to a row of its own. -/
theorem app_more {w : World} {base : Nat} {v : Value} {xs : List Int} {n : Nat} (hv : w.ownsRow base 24 1 v n (nuC xs)) (hb : base ≤ w.heap.size) (A : Option Addr) (c m : Nat) (r : List Int) (hm : r.length = m) (hr : NumS w A r) (hn : n ≤ 1000) (hs : r.length ≤ 1000) (hA : A = none → c = 0) :
    ∃ v2 u2, (Builtin.append_ #[22, 22] 22 #[v, .slice A m c]).run Try.prog w = .ok v2 u2 ∧ u2.ownsRow base 24 1 v2 (n + m) (nuC (xs ++ r)) ∧ w.grownBy u2 v.ownBlock := by
  subst hm
  obtain ⟨i0, hi, hz, h1, h2⟩ := info_parts (show (Try.prog.info? 24).map (fun i => (i.zero, i.size, i.bytes)) = some (some (.int .u64 0), 1, 8) by kernel_rfl)
  rw [nuC_app]
  by_cases h0 : 0 < r.length
  · obtain ⟨g, o, rfl, hg, hc⟩ := hr h0
    obtain ⟨v2, u2, e1, e2, e3, -⟩ := run_append_own (P := Try.prog) w base 22 22 24 i0 (.int .u64 0) 1 8 Try.underlying22 hi hz h1 h2 rfl (by omega) v n (nuC xs) hv ⟨g, o, none⟩ r.length c (nuC r) (by rw [nuC_len]; omega) (num_news hc) (nuC_one r) (by unfold maxLen; omega) (by omega) hb
    exact ⟨v2, u2, e1, e2, e3⟩
  · have e : r = [] := List.eq_nil_of_length_eq_zero (by omega)
    subst e
    cases A with
    | some a =>
      obtain ⟨v2, u2, e1, e2, e3, -⟩ := run_append_own (P := Try.prog) w base 22 22 24 i0 (.int .u64 0) 1 8 Try.underlying22 hi hz h1 h2 rfl (by omega) v n (nuC xs) hv a 0 c [] (by simp) (fun j u hu => by simp at hu) (fun u hu => by simp at hu) (by unfold maxLen; omega) (by omega) hb
      exact ⟨v2, u2, e1, e2, e3⟩
    | none =>
      rw [hA rfl]
      refine ⟨v, w, run_append_owned_none (P := Try.prog) w base 22 22 24 i0 1 Try.underlying22 hi v n (nuC xs) hv, ?_, ⟨rfl, rfl, rfl, Nat.le_refl _, fun _ _ _ => rfl⟩⟩
      simpa [nuC] using hv

theorem drop_cons' (b : List Int) {j : Nat} (h : j < b.length) : b.drop j = bAt b j :: b.drop (j + 1) := by
  rw [List.drop_eq_getElem_cons h]
  unfold bAt
  rw [List.getD_eq_getElem?_getD, List.getElem?_eq_getElem h, Option.getD_some]
/-- A row of its own that holds numbers, as a block. -/
theorem own_blk {w : World} {base : Nat} {A : Option Addr} {c n : Nat} {xs : List Value} (h : w.ownsRow base 24 1 (.slice A n c) n xs) (hn : 0 < n) : ∃ g cur, A = some ⟨g, 0, none⟩ ∧ base ≤ g ∧ Blk g cur 24 w ∧ n ≤ cur.size := by
  rcases h.2 with ⟨e, rfl⟩ | ⟨g, cap, cur, e, hb, hg, h1, h2, h3, h4⟩
  · omega
  · injection e with e1 e2 e3
    exact ⟨g, cur, e1, hb, hg, by omega⟩
theorem hDr_len (i : Int) (q : List Int) : (hDr i q).2.1.length ≤ q.length := by
  unfold hDr
  split
  · split
    · simp
    · simp
  · simp
theorem hDr_first (i x : Int) (r s : List Int) : (hDr i (x :: r)).1 = (hDr i (x :: s)).1 ∧ (hDr i (x :: r)).2.2 = (hDr i (x :: s)).2.2 ∧ ((hDr i (x :: r)).2.2 = 0 → (hDr i (x :: r)).2.1 = r) := by
  unfold hDr
  split
  · exact ⟨rfl, rfl, fun _ => rfl⟩
  · exact ⟨rfl, rfl, fun h => by cases h⟩

set_option maxHeartbeats 1000000 in
theorem l10_HelpLast (i : Int) (l more : List Int) (A B : Option Addr) (c d : Nat) (w : World) (hl : NumS w A l) (hlo : OkN l) (hlc : l.length ≤ c) (hc : c ≤ maxLen) (hA : A = none → c = 0) (hm : NumS w B more) (hmo : OkN more) (hmd : more.length ≤ d) (hd : d ≤ maxLen) (hB : B = none → d = 0) :
    Calls Try.prog 7 #[.int .i64 i, .slice A l.length c, .slice B more.length d] w (Fine w) := by
  have SH := Lib.hid l10_shown
  obtain ⟨q1, q2⟩ := few_nums hl hlo 100
  obtain ⟨p1, p2⟩ := few_nums hm hmo 100
  have hk : (l.take 100).length = min 100 l.length := List.length_take
  have hk2 : (more.take 100).length = min 100 more.length := List.length_take
  have hif1 : (if (100 : Int) < l.length then (100 : Int) else l.length) = (l.take 100).length := by omega
  have hif2 : (if (100 : Int) < more.length then (100 : Int) else more.length) = (more.take 100).length := by omega
  have hkc : (l.take 100).length ≤ c := by omega
  have hk1 : (l.take 100).length ≤ 100 := by omega
  have hmd1 : (more.take 100).length ≤ d := by omega
  have hm1 : (more.take 100).length ≤ 100 := by omega
  have HL1 : Hid (∀ u, Below w.heap.size w u → 2 ≤ (l.take 100).length → ∃ g o, A = some ⟨g, o, none⟩ ∧ u.cell? ⟨g, o + 1, none⟩ = some (.int .u64 (bAt (l.take 100) 1))) := Lib.hid fun u b h2 => by
    obtain ⟨g, o, e, hg, hcell⟩ := (hl.after b) (by omega)
    exact ⟨g, o, e, by rw [hcell 1 (by omega), bAt_take l 100 1 (by omega)]⟩
  clear hl hlo hm hmo hk hk2 hlc hmd
  generalize l.take 100 = q at *
  generalize more.take 100 = p at *
  have hln : (q.length : Int) ≤ l.length := by omega
  generalize l.length = n at *
  generalize more.length = m at *
  have DR : Hid (∀ p B b u, p.length = b → NumS u B p → OkN p → p.length ≤ 200 → ∀ d, b ≤ d → d ≤ maxLen → Calls Try.prog 10 #[.int .i64 i, .slice B b d] u (DrawW (hDr i p) u)) := Lib.hid fun p B b u e h ho hp d hd hd2 => by
    subst e
    exact h10_Draw i p B d u (by omega) hd hd2 h ho
  have HQ := Lib.hid q1
  have HO := Lib.hid q2
  have HP := Lib.hid p1
  have HPO := Lib.hid p2
  clear q1 q2 p1 p2
  generalize hkk : q.length = k at *
  have HK := Lib.hid hkk
  clear hkk
  generalize hmm : p.length = z at *
  have HZ := Lib.hid hmm
  clear hmm
  have a1 : (0 : Int) ≤ k := by omega
  have a2 : (k : Int) ≤ c := by omega
  have a3 : (0 : Int) ≤ z := by omega
  have a4 : (z : Int) ≤ d := by omega
  have AP1 : Hid (∀ u, Below w.heap.size w u → ∃ v2 u2, (Builtin.append_ #[22, 22] 22 #[.slice (some ⟨u.heap.size, 0, none⟩) 0 0, .slice A k c]).run Try.prog (u.alloc (.cells #[] 24)) = .ok v2 u2 ∧ u2.ownsRow u.heap.size 24 1 v2 k (nuC q) ∧ Below u.heap.size u u2) := Lib.hid fun u b => by
    have b2 := below_alloc (Below.refl u.heap.size u) (.cells #[] 24)
    have hown : (u.alloc (.cells #[] 24)).ownsRow u.heap.size 24 1 (.slice (some ⟨u.heap.size, 0, none⟩) 0 0) 0 (nuC []) := World.ownsRow_made u #[] 0 (Nat.le_refl _) (Nat.zero_le _) rfl
    obtain ⟨v2, u2, e1, e2, e3⟩ := app_more hown b2.size A c k q HK.out ((HQ.out.after b).after b2) (by omega) (by rw [HK.out]; omega) hA
    rw [Nat.zero_add, List.nil_append] at e2
    exact ⟨v2, u2, e1, e2, below_own b2 hown b2.size e3⟩
  obtain ⟨y, hy⟩ : ∃ y, 1 + z = y := ⟨_, rfl⟩
  have AP2 : Hid (∀ u x, Below w.heap.size w u → ∃ v2 u2, (Builtin.append_ #[22, 22] 22 #[.slice (some ⟨u.heap.size, 0, none⟩) 1 1, .slice B z d]).run Try.prog (u.alloc (.cells #[.int .u64 x] 24)) = .ok v2 u2 ∧ u2.ownsRow u.heap.size 24 1 v2 y (nuC (x :: p)) ∧ Below u.heap.size u u2) := Lib.hid fun u x b => by
    have b2 := below_alloc (Below.refl u.heap.size u) (.cells #[.int .u64 x] 24)
    have hown : (u.alloc (.cells #[.int .u64 x] 24)).ownsRow u.heap.size 24 1 (.slice (some ⟨u.heap.size, 0, none⟩) 1 1) 1 (nuC [x]) := World.ownsRow_lit u #[.int .u64 x] 1 (Nat.le_refl _) (by decide) rfl
    obtain ⟨v2, u2, e1, e2, e3⟩ := app_more hown b2.size B d z p HZ.out ((HP.out.after b).after b2) (by omega) (by rw [HZ.out]; omega) hB
    rw [hy] at e2
    exact ⟨v2, u2, e1, e2, below_own b2 hown b2.size e3⟩
  have HY := Lib.hid hy
  have hy1 : 1 ≤ y := by omega
  have hy2 : y ≤ 101 := by omega
  clear hy
  clear hA hB
  go_enter Try.func7, Try.ntmps7
  go_wp2_with fail
  refine (SH.out _).mono ?_
  rintro e w1 ⟨rfl, b1⟩
  have V := Lib.hid b1
  clear b1
  obtain ⟨v2, w2, hr2, ho2, hb2⟩ := AP1.out w1 V.out
  obtain ⟨X, cx, rfl, x1, x2⟩ := own_slice ho2
  unfold maxLen at x2
  have V2 := Lib.hid (below_next' V.out hb2)
  have OX := Lib.hid ho2
  clear hb2 ho2 AP1
  by_cases k0 : k = 0
  · have kz : ((k : Int) == 0) = true := by rw [k0]; rfl
    clear k0
    go_wp2_with ((at_builtin; refine Lib.wpList_append_run _ rfl (.tmp 19) (.tmp 24) _ _ rfl _ _ rfl rfl _ _ hr2 ?_))
    go_ret
    exact ⟨rfl, V2.out⟩
  have kp : ((k : Int) == 0) = false := by
    rw [beq_eq_false_iff_ne]
    omega
  obtain ⟨gx, curx, rfl, hgx, hbx, hcx⟩ := own_blk OX.out (by omega)
  have BX := Lib.hid hbx
  have XN := Lib.hid (own_numS HK.out.symm OX.out)
  have hc0 := OX.out.cellAt 0 (by omega)
  rw [nuC_at q (by have := HK.out; omega)] at hc0
  have CX0 := Lib.hid hc0
  have hcons : q = bAt q 0 :: q.drop 1 := by
    have := drop_cons' q (j := 0) (by have := HK.out; omega)
    simpa using this
  obtain ⟨x0, qr, rfl⟩ : ∃ x0 qr, q = x0 :: qr := ⟨_, _, hcons⟩
  clear hcons
  rw [show bAt (x0 :: qr) 0 = x0 from rfl] at CX0 hc0
  have hx0 := HO.out 0 (by simp)
  rw [show bAt (x0 :: qr) 0 = x0 from rfl] at hx0
  have HX0 := Lib.hid hx0
  clear hx0 hbx hcx
  have GX : Hid (gx < w2.heap.size) := Lib.hid BX.out.lt
  go_wp2_with ((at_builtin; refine Lib.wpList_append_run _ rfl (.tmp 19) (.tmp 24) _ _ rfl _ _ rfl rfl _ _ hr2 ?_))
  clear hr2 hc0
  have kn0 : 0 < k := by omega
  have kp0 : (0 : Int) < k := by omega
  go_upto_region 6 with fail
  have QD : Hid (Below w2.heap.size w2 w2.drew) := Lib.hid (Below.drew (Below.refl _ _))
  have SD : Hid (∀ u, Below w2.heap.size w2 u → u.cell? ⟨gx, 0, none⟩ = some (.int .u64 x0)) := Lib.hid fun u b => cell_then CX0.out b
  refine wp_region_held_drew (S := fun w' => w'.cell? ⟨gx, 0, none⟩ = some (.int .u64 x0)) (by kernel_rfl) (SD.out _ QD.out) (fun hHeld => ?_)
  generalize w2.drew = wd at *
  have VD := Lib.hid (below_next' V2.out QD.out)
  have QB := Lib.hid QD.out
  refine wpAnyH_take (i := 0) (oi := { dst := some 33, op := Op.move (Operand.tmp 8), type := 22, pos := "law.go:102", after := #[], guard := none }) (v := ?_) rfl (by kernel_rfl) (by kernel_rfl) (by kernel_rfl) (fun _ _ _ h => h) (Or.inl ⟨by rfl, ?_⟩) (by first | exact hHeld | assumption) ?_
  rotate_left 1
  · intro w hSw; (try dsimp only at hSw); go_simp; try (with_reducible rfl)
  try simp only [Act.put, List.setIfInBounds_toArray, List.set_cons_zero, List.set_cons_succ]
  refine wpAnyH_take (i := 1) (oi := { dst := some 34, op := Op.indexAddr 22 (Operand.tmp 33) (Operand.const (Value.int IntKind.i64 0)), type := 0, pos := "law.go:102", after := #[{ on := 0, ground := Ground.data }], guard := none }) (v := ?_) rfl (by kernel_rfl) (by kernel_rfl) (by kernel_rfl) (fun _ _ _ h => h) (Or.inl ⟨by rfl, ?_⟩) (by first | exact hHeld | assumption) ?_
  rotate_left 1
  · intro w hSw; (try dsimp only at hSw); go_simp; try (with_reducible rfl)
  try simp only [Act.put, List.setIfInBounds_toArray, List.set_cons_zero, List.set_cons_succ]
  refine wpAnyH_take (i := 2) (oi := { dst := some 35, op := Op.load 24 (Operand.tmp 34), type := 24, pos := "law.go:102", after := #[{ on := 1, ground := Ground.data }], guard := none }) (v := ?_) rfl (by kernel_rfl) (by kernel_rfl) (by kernel_rfl) (fun _ _ _ h => h) (Or.inl ⟨by rfl, ?_⟩) (by first | exact hHeld | assumption) ?_
  rotate_left 1
  · intro w hSw; (try dsimp only at hSw); go_simp; try (with_reducible rfl)
  try simp only [Act.put, List.setIfInBounds_toArray, List.set_cons_zero, List.set_cons_succ]
  refine wpAnyH_take (i := 4) (oi := { dst := some 37, op := Op.move (Operand.tmp 2), type := 22, pos := "law.go:102", after := #[], guard := none }) (v := ?_) rfl (by kernel_rfl) (by kernel_rfl) (by kernel_rfl) (fun _ _ _ h => h) (Or.inl ⟨by rfl, ?_⟩) (by first | exact hHeld | assumption) ?_
  rotate_left 1
  · intro w hSw; (try dsimp only at hSw); go_simp; try (with_reducible rfl)
  try simp only [Act.put, List.setIfInBounds_toArray, List.set_cons_zero, List.set_cons_succ]
  refine wpAnyH_take (i := 5) (oi := { dst := some 38, op := Op.move (Operand.tmp 2), type := 22, pos := "law.go:102", after := #[], guard := none }) (v := ?_) rfl (by kernel_rfl) (by kernel_rfl) (by kernel_rfl) (fun _ _ _ h => h) (Or.inl ⟨by rfl, ?_⟩) (by first | exact hHeld | assumption) ?_
  rotate_left 1
  · intro w hSw; (try dsimp only at hSw); go_simp; try (with_reducible rfl)
  try simp only [Act.put, List.setIfInBounds_toArray, List.set_cons_zero, List.set_cons_succ]
  refine wpAnyH_take (i := 6) (oi := { dst := some 39, op := Op.call { callee := Callee.builtin Builtin.len, args := #[Operand.tmp 38], argTypes := #[22] }, type := 3, pos := "law.go:102", after := #[{ on := 5, ground := Ground.data }], guard := none }) (v := ?_) rfl (by kernel_rfl) (by kernel_rfl) (by kernel_rfl) (fun _ _ _ h => h) (Or.inl ⟨by rfl, ?_⟩) (by first | exact hHeld | assumption) ?_
  rotate_left 1
  · intro w hSw; (try dsimp only at hSw); go_simp; try (with_reducible rfl)
  try simp only [Act.put, List.setIfInBounds_toArray, List.set_cons_zero, List.set_cons_succ]
  refine wpAnyH_take (i := 7) (oi := { dst := some 40, op := Op.call { callee := Callee.builtin Builtin.min, args := #[Operand.tmp 39, Operand.const (Value.int IntKind.i64 100)], argTypes := #[3, 3] }, type := 3, pos := "law.go:102", after := #[{ on := 6, ground := Ground.data }], guard := none }) (v := ?_) rfl (by kernel_rfl) (by kernel_rfl) (by kernel_rfl) (fun _ _ _ h => h) (Or.inl ⟨by rfl, ?_⟩) (by first | exact hHeld | assumption) ?_
  rotate_left 1
  · intro w hSw; (try dsimp only at hSw); go_simp; try (with_reducible rfl)
  try simp only [Act.put, List.setIfInBounds_toArray, List.set_cons_zero, List.set_cons_succ]
  refine wpAnyH_take (i := 8) (oi := { dst := some 41, op := Op.slice 22 (Operand.tmp 37) none (some (Operand.tmp 40)) none, type := 22, pos := "law.go:102", after := #[{ on := 4, ground := Ground.data }, { on := 7, ground := Ground.data }], guard := none }) (v := ?_) rfl (by kernel_rfl) (by kernel_rfl) (by kernel_rfl) (fun _ _ _ h => h) (Or.inl ⟨by rfl, ?_⟩) (by first | exact hHeld | assumption) ?_
  rotate_left 1
  · intro w hSw; (try dsimp only at hSw); go_simp; try (with_reducible rfl)
  try simp only [Act.put, List.setIfInBounds_toArray, List.set_cons_zero, List.set_cons_succ]
  refine wpAnyH_ready (rs := [3]) (by kernel_rfl) (by simp) ?_
  refine AllReadyH.cons (o := { dst := some 36, op := Op.buildSlice 22 1 #[(0, Operand.tmp 35)], type := 22, pos := "law.go:102", after := #[{ on := 2, ground := Ground.data }], guard := none }) rfl (fun K hK => ?_) AllReadyH.nil
  go_simp
  replace QB := Lib.hid (below_alloc QB.out (.cells #[.int .u64 x0] 24))
  refine hK.out _ _ (SD.out _ QB.out) (fun hHeld => ?_)
  clear hK K
  try simp only [Act.put, List.setIfInBounds_toArray, List.set_cons_zero, List.set_cons_succ]
  obtain ⟨v3, w4, hr3, ho3, hb3⟩ := AP2.out wd x0 VD.out
  obtain ⟨Y, cy, rfl, y1, y2⟩ := own_slice ho3
  unfold maxLen at y2
  have OY := Lib.hid ho3
  refine wpAnyH_ready (rs := [9]) (by kernel_rfl) (by simp) ?_
  refine AllReadyH.cons (o := { dst := some 42, op := Op.call { callee := Callee.builtin Builtin.append, args := #[Operand.tmp 36, Operand.tmp 41], argTypes := #[22, 22] }, type := 22, pos := "law.go:102", after := #[{ on := 3, ground := Ground.data }, { on := 8, ground := Ground.data }], guard := none }) rfl (fun K hK => ?_) AllReadyH.nil
  refine step_append_run rfl (.tmp 36) (.tmp 41) _ _ rfl _ _ rfl rfl _ _ hr3 ?_
  replace QB := Lib.hid (below_next' QD.out hb3)
  clear hb3 ho3
  refine hK.out _ _ (SD.out _ QB.out) (fun hHeld => ?_)
  clear hK K
  try simp only [Act.put, List.setIfInBounds_toArray, List.set_cons_zero, List.set_cons_succ]
  refine wpAnyH_take (i := 10) (oi := { dst := some 10, op := Op.assign (Operand.tmp 42), type := 22, pos := "law.go:102", after := #[{ on := 9, ground := Ground.data }, { on := 9, ground := Ground.chain }, { on := 0, ground := Ground.phase }, { on := 1, ground := Ground.phase }, { on := 2, ground := Ground.phase }, { on := 3, ground := Ground.phase }, { on := 4, ground := Ground.phase }, { on := 5, ground := Ground.phase }, { on := 6, ground := Ground.phase }, { on := 7, ground := Ground.phase }, { on := 8, ground := Ground.phase }, { on := 9, ground := Ground.phase }], guard := none }) (v := ?_) rfl (by kernel_rfl) (by kernel_rfl) (by kernel_rfl) (fun _ _ _ h => h) (Or.inl ⟨by rfl, ?_⟩) (by first | exact hHeld | assumption) ?_
  rotate_left 1
  · intro w hSw; (try dsimp only at hSw); go_simp; try (with_reducible rfl)
  try simp only [Act.put, List.setIfInBounds_toArray, List.set_cons_zero, List.set_cons_succ]
  refine wpAnyH_done (by kernel_rfl) ?_ _
  clear hHeld SD AP2 hr3
  have V4 := Lib.hid (below_next' V2.out QB.out)
  have X4 := Lib.hid (XN.out.after QB.out)
  have Y4 := Lib.hid (own_numS (by rw [List.length_cons, HZ.out, ← HY.out]; omega) OY.out)
  have C4 := Lib.hid (cell_then CX0.out QB.out)
  have G4 : Hid (gx < w4.heap.size) := Lib.hid (Nat.lt_of_lt_of_le GX.out QB.out.size)
  have X4B : Hid (2 ≤ k → w4.cell? ⟨gx, 1, none⟩ = some (.int .u64 (bAt (x0 :: qr) 1))) := Lib.hid fun h2 => by
    have := OX.out.cellAt 1 (by omega)
    rw [nuC_at _ (by rw [HK.out]; omega)] at this
    exact cell_then this QB.out
  have hF := hDr_first i x0 qr p
  have hF2 := hDr_first i x0 p qr
  have hlen := hDr_len i (x0 :: qr)
  rw [HK.out] at hlen
  have DX := Lib.hid (DR.out (x0 :: qr) (some ⟨gx, 0, none⟩) k w4 HK.out X4.out HO.out (by rw [HK.out]; omega) cx x1 (by unfold maxLen; exact x2))
  have DY : Hid (∀ u, Below w4.heap.size w4 u → Calls Try.prog 10 #[.int .i64 i, .slice Y y cy] u (DrawW (hDr i (x0 :: p)) u)) := Lib.hid fun u b => DR.out (x0 :: p) Y y u (by rw [List.length_cons, HZ.out, ← HY.out]; omega) (Y4.out.after b) (fun k hk => by
    cases k with
    | zero => exact HX0.out
    | succ k => exact HPO.out k (by simpa using hk)) (by rw [List.length_cons, HZ.out]; omega) cy y1 (by unfold maxLen; exact y2)
  generalize hDr i (x0 :: qr) = R1 at *
  generalize hDr i (x0 :: p) = R2 at *
  obtain ⟨n1, l1, e1⟩ := R1
  obtain ⟨n2, l2, e2⟩ := R2
  dsimp only at *
  obtain ⟨rfl, rfl, hF3⟩ := hF
  have HF3 : Hid (e1 = 0 → (l1.length : Int) = (k : Int) - 1) := Lib.hid fun h => by
    have := HK.out
    rw [List.length_cons] at this
    rw [hF3 h]
    omega
  have HF4 : Hid (e1 = 0 → (l2.length : Int) = (y : Int) - 1) := Lib.hid fun h => by
    rw [hF2.2.2 h, HZ.out]
    have := HY.out
    omega
  clear hF2 hF3 DR QD QB BX XN OX VD V2 X4 Y4 OY HQ HP HPO HO HX0 CX0 GX
  generalize hr1 : l1.length = r1 at *
  generalize hr2 : l2.length = r2 at *
  go_wp2_with fail
  refine (DX.out).mono ?_
  rintro e w5 ⟨A5, c5, rfl, b5, o5⟩
  dsimp only at o5 ⊢
  rw [hr1] at o5 ⊢
  have B45 := Lib.hid b5
  have OW5 := Lib.hid o5
  clear b5 o5
  go_wp2_with fail
  refine (DY.out _ B45.out).mono ?_
  rintro e w6 ⟨A6, c6, rfl, b6, o6⟩
  dsimp only
  rw [hr2]
  have B46 := Lib.hid (below_next' B45.out b6)
  have O6 := Lib.hid (own_after OW5.out b6)
  clear b6 o6 B45 OW5 DX DY hr1 hr2
  have LB : Hid (∀ g, A5 = some ⟨g, 0, none⟩ → 0 < r1 → w4.heap.size ≤ g ∧ ∃ cur, Blk g cur 24 w6 ∧ r1 ≤ cur.size) := Lib.hid fun g hg hr => by
    obtain ⟨g2, cur, e, hb, hk, hs⟩ := own_blk O6.out hr
    rw [hg] at e
    injection e with e
    injection e with e
    subst e
    exact ⟨hb, cur, hk, hs⟩
  have LA : Hid (0 < r1 → ∃ g, A5 = some ⟨g, 0, none⟩) := Lib.hid fun hr => by
    obtain ⟨g2, cur, e, -⟩ := own_blk O6.out hr
    exact ⟨g2, e⟩
  have hc5 : r1 ≤ c5 := by
    obtain ⟨A', c', e, h1, h2⟩ := own_slice O6.out
    injection e with _ _ e
    omega
  clear O6
  have r10 : (0 : Int) ≤ r1 := by omega
  go_wp2_with fail
  go_loopw [59] (fun iv wr => ∃ j : Nat, iv = .int .i64 j ∧ j ≤ r1 ∧ Hid (Below w4.heap.size w6 wr) ∧ Hid (∀ g, A5 = some ⟨g, 0, none⟩ → 0 < r1 → ∃ cur, Blk g cur 24 wr ∧ r1 ≤ cur.size)) (fun iv wr => r1 - (intOf iv).toNat)
  case atStart => exact ⟨0, rfl, by omega, Lib.hid (Below.refl _ _), Lib.hid fun g hg hr => (LB.out g hg hr).2⟩
  case round =>
    obtain ⟨j, rfl, hj, Q, HB⟩ := hrel
    have hj0 : (0 : Int) ≤ j := by omega
    by_cases hlt : (j : Int) < r1
    · obtain ⟨g, rfl⟩ := LA.out (by omega)
      obtain ⟨cur, hcur, hsz⟩ := HB.out g rfl (by omega)
      have hlow := (LB.out g rfl (by omega)).1
      obtain ⟨vv, s1⟩ : ∃ vv, wr.cell? ⟨g, j, none⟩ = some vv := ⟨cur[j]'(by omega), by rw [Blk.cell hcur j, Array.getElem?_eq_getElem (by omega)]⟩
      have s2 := Blk.free hcur j
      have Q2 := Lib.hid (Q.out.setCell (p := ⟨g, j, none⟩) hlow (.int .u64 7))
      have HB2 : Hid (∀ g', (some (⟨g, 0, none⟩ : Addr)) = some ⟨g', 0, none⟩ → 0 < r1 → ∃ cur, Blk g' cur 24 (wr.setCell ⟨g, j, none⟩ (.int .u64 7)) ∧ r1 ≤ cur.size) := Lib.hid fun g' e _ => by
        injection e with e
        injection e with e
        subst e
        exact ⟨_, Blk.set hcur j _, by simpa using hsz⟩
      clear hcur hsz hlow HB LB LA
      go_wp2_with fail
      go_round
      case rel => exact ⟨j + 1, by go_num, by omega, Q2, HB2⟩
      case measure => simp [intOf]; omega
    · have W4 : Hid (Below w4.heap.size w4 wr) := Lib.hid (B46.out.trans Q.out)
      have WW : Hid (Below w.heap.size w wr) := Lib.hid (below_next' V4.out W4.out)
      have t0 : wr.cell? ⟨gx, 0, none⟩ = some (.int .u64 x0) := cell_then C4.out W4.out
      have hcxk : (k : Int) ≤ cx := by omega
      have kp1 : (0 : Int) < k := by omega
      clear HB LB LA Q
      have f1 : IntKind.i64.wrap ((k : Int) - 1) = (k : Int) - 1 := by rw [IntKind.wrap_i64]; omega
      have f2 : IntKind.i64.wrap ((y : Int) - 1) = (y : Int) - 1 := by rw [IntKind.wrap_i64]; omega
      by_cases he : e1 = 0
      · have f3 : ((r1 : Int) == (k : Int) - 1) = true := by rw [HF3.out he]; simp
        have f4 : ((r2 : Int) == (y : Int) - 1) = true := by rw [HF4.out he]; simp
        subst he
        by_cases h2 : k < 2
        · have f5 : decide ((k : Int) < 2) = true := decide_eq_true (by omega)
          go_wp2_with fail
          go_quiet (fail)
          go_wp2
          go_ret
          exact ⟨rfl, below_drewN WW.out _⟩
        · have f5 : decide ((k : Int) < 2) = false := decide_eq_false (by omega)
          have t1 := cell_then (X4B.out (by omega)) W4.out
          obtain ⟨ga, oa, rfl, t2⟩ := HL1.out wr WW.out (by omega)
          have f6 : (1 : Int) < k := by omega
          have f7 : (1 : Int) < n := by omega
          generalize bAt (x0 :: qr) 1 = x9 at *
          go_wp2_with fail
          go_quiet (fail)
          go_wp2
          go_ret
          exact ⟨rfl, below_drewN WW.out _⟩
      · have f3 : (e1 != 0) = true := by simpa [bne] using he
        by_cases h2 : k < 2
        · have f5 : decide ((k : Int) < 2) = true := decide_eq_true (by omega)
          go_wp2_with fail
          go_quiet (fail)
          go_wp2
          go_ret
          exact ⟨rfl, below_drewN WW.out _⟩
        · have f5 : decide ((k : Int) < 2) = false := decide_eq_false (by omega)
          have t1 := cell_then (X4B.out (by omega)) W4.out
          obtain ⟨ga, oa, rfl, t2⟩ := HL1.out wr WW.out (by omega)
          have f6 : (1 : Int) < k := by omega
          have f7 : (1 : Int) < n := by omega
          generalize bAt (x0 :: qr) 1 = x9 at *
          go_wp2_with fail
          go_quiet (fail)
          go_wp2
          go_ret
          exact ⟨rfl, below_drewN WW.out _⟩

end Go.Proofs.Ytlgpollefkkbdaa
