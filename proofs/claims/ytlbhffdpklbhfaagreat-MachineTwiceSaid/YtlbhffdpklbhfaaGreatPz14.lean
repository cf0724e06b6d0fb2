/-
  Texts, one behind the other: Tab7, Tab8, TabSys, InsRow.
  Conditions: those that each theorem states.
-/
import Derived.LoopTactic
import Derived.Deep.RegionHeld
import Derived.Deep.RegionHeld3
import Derived.Test.YtlbhffdpklbhfaaGreatPz13
import Derived.Test.YtlbhffdpklbhfaaGreatPz10
import Derived.Test.YtlbhffdpklbhfaaGreatPz1
import Derived.Test.YtlbhffdpklbhfaaGreatPz2
namespace Go.Proofs.YtlbhffdpklbhfaaGreat
open Go.RowKit
set_option maxRecDepth 100000
set_option linter.unusedVariables false
set_option linter.unusedSimpArgs false
set_option maxHeartbeats 4000000 in
theorem q9_change (w : World) (gt gm : Nat) (vl : Value) (L : List TR) (M : PM) (F G : Nat → Prop) (i s : Nat) (val : List Int) (C : Option Addr) (m c : Nat) (fl : Int) (h : RawD w gt gm vl L M F G) (hi : i ≤ 1000) (hs : s ≤ 1024) (hv : Keep (fun x => F x ∨ G x) w C val) (hov : OkB val) (hvn : val.length = m) (hmc : m ≤ c) (hm1 : m ≤ 1000) (hfl : 0 ≤ fl ∧ fl ≤ 18446744073709551615) :
    Calls Tryz.prog 97 #[.pointer (some ⟨gt, 0, none⟩), .int .i64 (tArea i s), .slice C m c, .int .u64 fl] w
      (fun e w' => e = .returned (.int .u64 (if fl = 1 then minusI 17 else 0)) ∧ ∃ F' G', RawN w gt gm vl L (if fl = 1 then M else tFill M i s 0 val) F G w' F' G') := by
  have Q0 : Hid (RawN w gt gm vl L M F G w F G) := Lib.hid ⟨h, Turn.refl _ _, fun x hx => .inl hx, fun x hx => .inl hx⟩
  by_cases h1 : fl = 1
  · subst h1
    rw [if_pos rfl, show minusI 17 = 18446744073709551599 from rfl, if_pos rfl]
    clear h hv hov hvn
    generalize tArea i s = ar at *
    go_enter Tryz.func97, Tryz.ntmps97
    go_wp2_with fail
    go_ret
    exact ⟨rfl, F, G, Q0.out⟩
  · rw [if_neg h1, if_neg h1]
    have hne : (fl == 1) = false := by simpa using h1
    have HB := Lib.hid hv
    have HO := Lib.hid hov
    have HN := Lib.hid hvn
    clear h hv hov hvn h1
    have i0 : (0 : Int) ≤ i := by omega
    have s0 : (0 : Int) ≤ s := by omega
    generalize hAr : tArea i s = ar
    have HAr := Lib.hid hAr
    clear hAr
    go_enter Tryz.func97, Tryz.ntmps97
    go_wp2_with fail
    go_loopw [15] (fun iv wr => ∃ (j : Nat) (M' : PM) (F' G' : Nat → Prop), iv = .int .i64 j ∧ j ≤ m ∧ Hid (tFill M' i s j (val.drop j) = tFill M i s 0 val) ∧ Hid (RawN w gt gm vl L M' F G wr F' G')) (fun iv wr => m - (intOf iv).toNat)
    case atStart => exact ⟨0, M, F, G, rfl, by omega, Lib.hid rfl, Q0⟩
    case round =>
      clear Q0
      obtain ⟨j, M', F', G', rfl, hj, HE, Q⟩ := hrel
      have j0 : (0 : Int) ≤ j := by omega
      by_cases hlt : (j : Int) < m
      · have hjn : j < m := by omega
        have HN2 : Hid (tFill (pStore M' (atI (tArea i s) j) 1 (bAt val j)).1 i s (j + 1) (val.drop (j + 1)) = tFill M i s 0 val) := Lib.hid (by rw [← tFill_drop M' i s val j j (by rw [HN.out]; exact hjn)]; exact HE.out)
        obtain ⟨x1, x2⟩ := HO.out j (by rw [HN.out]; exact hjn)
        have hbs := HB.out wr Q.out.turn
        obtain ⟨gb, ob, rfl, hgb, hcb⟩ := hbs (by rw [HN.out]; omega)
        have hcell := hcb j (by rw [HN.out]; exact hjn)
        clear hcb
        have HS : Hid (∀ M' u F' G', RawN w gt gm vl L M' F G u F' G' → u.cell? ⟨gt, 0, none⟩ = some (.pointer (some ⟨gm, 0, none⟩))) := Lib.hid fun M' u F' G' q => q.rep.maps.cells.1
        have AT : Hid (∀ u, Calls Tryz.prog 19 #[.int .i64 ar, .int .i64 (j : Int)] u (Gives (.int .u64 (atI (tArea i s) j)) u)) := Lib.hid fun u => by rw [HAr.out]; exact c8_At ar j u
        have ST : Hid (∀ u F' G', RawN w gt gm vl L M' F G u F' G' → Calls Tryz.prog 112 #[.pointer (some ⟨gm, 0, none⟩), .int .u64 (atI (tArea i s) j), .int .i64 1, .int .u64 (bAt val j)] u (fun e u' => e = .returned (.int .i64 (pStore M' (atI (tArea i s) j) 1 (bAt val j)).2) ∧ ∃ G2, RawN w gt gm vl L (pStore M' (atI (tArea i s) j) 1 (bAt val j)).1 F G u' F' G2)) := Lib.hid fun u F' G' q =>
          (c8_Store u gm M' G' (atI (tArea i s) j) 1 (bAt val j) q.rep.mem (by unfold atI; omega) (by omega)).mono fun e u' hw => q.mem hw
        clear hbs HE
        generalize (pStore M' (atI (tArea i s) j) 1 (bAt val j)).1 = M2 at *
        generalize (pStore M' (atI (tArea i s) j) 1 (bAt val j)).2 = e2 at *
        generalize atI (tArea i s) j = at_ at *
        generalize bAt val j = x at *
        have hwx : IntKind.u64.wrap x = x := by rw [IntKind.wrap_u64]; omega
        go_wp2_with fail
        replace Q := Lib.hid (Q.out.after (Below.drew (Below.refl _ _)))
        clear hcell
        refine wp_region_held_drew (S := fun w' => w'.cell? ⟨gt, 0, none⟩ = some (.pointer (some ⟨gm, 0, none⟩))) (by kernel_rfl) (HS.out _ _ _ _ Q.out) (fun hHeld => ?_)
        refine wpAnyH_take (i := 0) (oi := { dst := some 20, op := Op.move (Operand.tmp 0), type := _, pos := _, after := _, guard := none }) (v := ?_) rfl (by kernel_rfl) (by kernel_rfl) (by kernel_rfl) (fun _ _ _ h => h) (Or.inl ⟨by rfl, ?_⟩) (by assumption) ?_
        rotate_left 1
        · intro w hSw; (try dsimp only at hSw); go_simp; try (with_reducible rfl)
        try simp only [Act.put, List.setIfInBounds_toArray, List.set_cons_zero, List.set_cons_succ]
        refine wpAnyH_take (i := 1) (oi := { dst := some 21, op := Op.nilCheck (Operand.tmp 20), type := _, pos := _, after := _, guard := none }) (v := ?_) rfl (by kernel_rfl) (by kernel_rfl) (by kernel_rfl) (fun _ _ _ h => h) (Or.inl ⟨by rfl, ?_⟩) (by assumption) ?_
        rotate_left 1
        · intro w hSw; (try dsimp only at hSw); go_simp; try (with_reducible rfl)
        try simp only [Act.put, List.setIfInBounds_toArray, List.set_cons_zero, List.set_cons_succ]
        refine wpAnyH_take (i := 2) (oi := { dst := some 22, op := Op.fieldAddr 114 (Operand.tmp 21) 0, type := _, pos := _, after := _, guard := none }) (v := ?_) rfl (by kernel_rfl) (by kernel_rfl) (by kernel_rfl) (fun _ _ _ h => h) (Or.inl ⟨by rfl, ?_⟩) (by assumption) ?_
        rotate_left 1
        · intro w hSw; (try dsimp only at hSw); go_simp; try (with_reducible rfl)
        try simp only [Act.put, List.setIfInBounds_toArray, List.set_cons_zero, List.set_cons_succ]
        refine wpAnyH_take (i := 3) (oi := { dst := some 23, op := Op.load 66 (Operand.tmp 22), type := _, pos := _, after := _, guard := none }) (v := ?_) rfl (by kernel_rfl) (by kernel_rfl) (by kernel_rfl) (fun _ _ _ h => h) (Or.inl ⟨by rfl, ?_⟩) (by assumption) ?_
        rotate_left 1
        · intro w hSw; (try dsimp only at hSw); go_simp; try (with_reducible rfl)
        try simp only [Act.put, List.setIfInBounds_toArray, List.set_cons_zero, List.set_cons_succ]
        refine wpAnyH_take (i := 4) (oi := { dst := some 24, op := Op.move (Operand.tmp 1), type := _, pos := _, after := _, guard := none }) (v := ?_) rfl (by kernel_rfl) (by kernel_rfl) (by kernel_rfl) (fun _ _ _ h => h) (Or.inl ⟨by rfl, ?_⟩) (by assumption) ?_
        rotate_left 1
        · intro w hSw; (try dsimp only at hSw); go_simp; try (with_reducible rfl)
        try simp only [Act.put, List.setIfInBounds_toArray, List.set_cons_zero, List.set_cons_succ]
        refine wpAnyH_take (i := 5) (oi := { dst := some 25, op := Op.move (Operand.tmp 9), type := _, pos := _, after := _, guard := none }) (v := ?_) rfl (by kernel_rfl) (by kernel_rfl) (by kernel_rfl) (fun _ _ _ h => h) (Or.inl ⟨by rfl, ?_⟩) (by assumption) ?_
        rotate_left 1
        · intro w hSw; (try dsimp only at hSw); go_simp; try (with_reducible rfl)
        try simp only [Act.put, List.setIfInBounds_toArray, List.set_cons_zero, List.set_cons_succ]
        refine wpAnyH_take (i := 7) (oi := { dst := some 27, op := Op.move (Operand.tmp 10), type := _, pos := _, after := _, guard := none }) (v := ?_) rfl (by kernel_rfl) (by kernel_rfl) (by kernel_rfl) (fun _ _ _ h => h) (Or.inl ⟨by rfl, ?_⟩) (by assumption) ?_
        rotate_left 1
        · intro w hSw; (try dsimp only at hSw); go_simp; try (with_reducible rfl)
        try simp only [Act.put, List.setIfInBounds_toArray, List.set_cons_zero, List.set_cons_succ]
        refine wpAnyH_take (i := 8) (oi := { dst := some 28, op := Op.convert 5 42 (Operand.tmp 27), type := _, pos := _, after := _, guard := none }) (v := ?_) rfl (by kernel_rfl) (by kernel_rfl) (by kernel_rfl) (fun _ _ _ h => h) (Or.inl ⟨by rfl, ?_⟩) (by assumption) ?_
        rotate_left 1
        · intro w hSw; (try dsimp only at hSw); go_simp; try (with_reducible rfl)
        try simp only [Act.put, List.setIfInBounds_toArray, List.set_cons_zero, List.set_cons_succ]
        refine wpAnyH_ready (rs := [6]) (by kernel_rfl) (by simp) ?_
        refine AllReadyH.cons (o := { dst := some 26, op := Op.call { callee := Callee.value (Operand.func 19), args := #[Operand.tmp 24, Operand.tmp 25], argTypes := #[3, 3] }, type := _, pos := _, after := _, guard := none }) rfl (fun K hK => ?_) AllReadyH.nil
        · skip
          go_simp
          refine (AT.out _).mono ?_; rintro e u1 ⟨rfl, b1⟩
          replace Q := Lib.hid (Q.out.after b1)
          clear b1
          go_wp2_with fail
          refine hK.out _ _ (HS.out _ _ _ _ Q.out) (fun hHeld => ?_)
          clear hK K
          try simp only [Act.put, List.setIfInBounds_toArray, List.set_cons_zero, List.set_cons_succ]
          refine wpAnyH_ready (rs := [9]) (by kernel_rfl) (by simp) ?_
          refine AllReadyH.cons (o := { dst := some 29, op := Op.call { callee := Callee.value (Operand.func 112), args := #[Operand.tmp 23, Operand.tmp 26, Operand.const (Value.int IntKind.i64 1), Operand.tmp 28], argTypes := #[66, 42, 3, 42] }, type := _, pos := _, after := _, guard := none }) rfl (fun K hK => ?_) AllReadyH.nil
          · skip
            go_simp
            refine (ST.out _ _ _ Q.out).mono ?_; rintro e u3 ⟨rfl, G2, q3⟩
            have Q3 := Lib.hid q3
            clear q3 hHeld
            have hHeld := HS.out _ _ _ _ Q3.out
            go_wp2_with fail
            refine hK.out _ _ (HS.out _ _ _ _ Q3.out) (fun hHeld => ?_)
            clear hK K
            try simp only [Act.put, List.setIfInBounds_toArray, List.set_cons_zero, List.set_cons_succ]
            refine wpAnyH_done (by kernel_rfl) ?_ _
            clear hHeld HS AT ST
            go_wp2_with fail
            go_round
            case rel => exact ⟨j + 1, _, _, _, by go_num, by omega, HN2, Q3⟩
            case measure => simp [intOf]; omega
      · have hjn : j = m := by omega
        subst hjn
        have HE2 : Hid (M' = tFill M i s 0 val) := Lib.hid (by
          have := HE.out
          rw [List.drop_eq_nil_of_le (by rw [HN.out]; omega)] at this
          exact this)
        go_wp2_with fail
        go_ret
        refine ⟨rfl, F', G', ?_⟩
        rw [← HE2.out]
        exact Q.out
structure RepD (w : World) (gt gm : Nat) (T : TT) (M : PM) (F G : Nat → Prop) : Prop where
  maps : RepU w gt gm T F
  mem : RepP w gm M G
  apart : ∀ x, F x → ¬ G x
theorem RepD.after {w u : World} {gt gm : Nat} {T : TT} {M : PM} {F G : Nat → Prop} (h : RepD w gt gm T M F G) (b : Below w.heap.size w u) : RepD u gt gm T M F G := ⟨h.maps.after b, h.mem.after b, h.apart⟩
def PutN (w : World) (gt gm : Nat) (F G : Nat → Prop) (T : TT) (M : PM) (w' : World) : Prop :=
  ∃ F' G', RepD w' gt gm T M F' G' ∧ Turn (fun x => F x ∨ G x) w w' ∧ (∀ x, F' x → F x ∨ w.heap.size ≤ x) ∧ ∀ x, G' x → G x ∨ w.heap.size ≤ x
def PutQ (gt gm : Nat) (F G : Nat → Prop) (r : TP) (w : World) (e : Ending) (w' : World) : Prop :=
  e = .returned (.tuple #[.int .u64 r.n, .int .i64 r.e]) ∧ PutN w gt gm F G r.T r.M w'
theorem putN_same {w w' : World} {gt gm : Nat} {T : TT} {M : PM} {F G : Nat → Prop} (h : RepD w gt gm T M F G) (b : Below w.heap.size w w') : PutN w gt gm F G T M w' :=
  ⟨F, G, h.after b, Turn.of_below b, fun x hx => .inl hx, fun x hx => .inl hx⟩
theorem PutN.next {w w' w'' : World} {gt gm : Nat} {T : TT} {M : PM} {F G : Nat → Prop} (h : PutN w gt gm F G T M w') (b : Below w'.heap.size w' w'') : PutN w gt gm F G T M w'' := by
  obtain ⟨F', G', h1, h2, h3, h4⟩ := h
  exact ⟨F', G', h1.after b, h2.next b, h3, h4⟩
theorem PutN.before {w0 w w' : World} {gt gm : Nat} {T : TT} {M : PM} {F G : Nat → Prop} (h : PutN w gt gm F G T M w') (b : Below w0.heap.size w0 w) : PutN w0 gt gm F G T M w' := by
  obtain ⟨F', G', h1, h2, h3, h4⟩ := h
  have := b.size
  exact ⟨F', G', h1, (Turn.of_below b).trans h2 (fun x hx => .inl hx), fun x hx => (h3 x hx).imp id (fun c => by omega), fun x hx => (h4 x hx).imp id (fun c => by omega)⟩
theorem rawN_put {w w' : World} {gt gm k : Nat} {vl : Value} {L : List TR} {M M' : PM} {F G F' G' : Nat → Prop} {r : TR} (hT : TFull (trM L)) (hk : k < L.length) (hn : ∀ j, j < L.length → (trAt L j).v ≠ .map none) (hr : r.m.ok) (hrf : r.m.d.hash = false → (r.m.L.length : Int) = r.m.d.max) (hrv : r.v ≠ .map none)
    (h : RawN w gt gm vl (L.set k r) M' F G w' F' G') : PutN w gt gm F G ((trM L).set k r.m) M' w' := by
  refine ⟨F', G', ⟨⟨vl, _, by simp only [trM, List.map_set], h.rep.maps, ⟨fun j hj => ?_, fun j hj hj2 => ?_⟩, fun j hj => ?_⟩, h.rep.mem, h.rep.apart⟩, h.turn, h.footF, h.footG⟩
  · rw [List.length_set, trM_len] at hj
    rw [mt_set (by rw [trM_len]; exact hk)]
    by_cases e : j = k
    · rw [if_pos e]; exact hr
    · rw [if_neg e]; exact hT.ok j (by rw [trM_len]; exact hj)
  · rw [List.length_set, trM_len] at hj
    rw [mt_set (by rw [trM_len]; exact hk)] at hj2 ⊢
    by_cases e : j = k
    · rw [if_pos e] at hj2 ⊢; exact hrf hj2
    · rw [if_neg e] at hj2 ⊢; exact hT.full j (by rw [trM_len]; exact hj) hj2
  · rw [List.length_set] at hj
    rw [trAt_set hk]
    by_cases e : j = k
    · rw [if_pos e]; exact hrv
    · rw [if_neg e]; exact hn j hj
theorem rawN_same {w w' : World} {gt gm : Nat} {vl : Value} {L : List TR} {M' : PM} {F G F' G' : Nat → Prop} (hT : TFull (trM L)) (hn : ∀ j, j < L.length → (trAt L j).v ≠ .map none)
    (h : RawN w gt gm vl L M' F G w' F' G') : PutN w gt gm F G (trM L) M' w' :=
  ⟨F', G', ⟨⟨vl, L, rfl, h.rep.maps, hT, hn⟩, h.rep.mem, h.rep.apart⟩, h.turn, h.footF, h.footG⟩
set_option maxHeartbeats 8000000 in
theorem q9_more (w : World) (gt gm : Nat) (vl : Value) (L : List TR) (M : PM) (F G : Nat → Prop) (k : Nat) (key val : List Int) (B C : Option Addr) (n d m c : Nat) (fl : Int) (h : RawD w gt gm vl L M F G) (hT : TFull (trM L)) (hnn : ∀ j, j < L.length → (trAt L j).v ≠ .map none) (hk : k < L.length) (hk1 : L.length ≤ 1000) (hkey : tFind (trAt L k).m.L key = none)
    (hb : Keep (fun x => F x ∨ G x) w B key) (hob : OkB key) (hn : key.length = n) (hnk : (n : Int) = (trAt L k).m.d.key) (hnd : n ≤ d) (hdm : d ≤ maxLen) (hv : Keep (fun x => F x ∨ G x) w C val) (hov : OkB val) (hvn : val.length = m) (hmv : (m : Int) = (trAt L k).m.d.val) (hmc : m ≤ c) (hcm : c ≤ maxLen) (hM : M.length ≤ 100000) (hfl : 0 ≤ fl ∧ fl ≤ 2) (R : TP) (hR : tPut (trM L) M k key val fl = R) :
    Calls Tryz.prog 99 #[.pointer (some ⟨gt, 0, none⟩), .int .i64 (k : Int), .slice B n d, .slice C m c, .int .u64 fl] w (fun e w' => e = .returned (.int .u64 R.n) ∧ R.e = 0 ∧ PutN w gt gm F G R.T R.M w') := by
  have hok := hT.ok k (by rw [trM_len]; exact hk)
  have hfu := hT.full k (by rw [trM_len]; exact hk)
  rw [trM_at] at hok hfu
  obtain ⟨hgood, -, hrise, hfew, hmade⟩ := id hok
  have hmax : (trAt L k).m.d.max ≤ 16 := by
    unfold Df.good at hgood
    simp only [Bool.and_eq_true, decide_eq_true_eq] at hgood
    exact hgood.2
  have hmay : tMay (trM L) k key = true := by
    unfold tMay
    rw [decide_eq_true (by omega : (0 : Int) ≤ (k : Int)), decide_eq_true (by rw [trM_len]; omega), Int.toNat_natCast, trM_at, hn, hnk]
    simp
  unfold tPut at hR
  rw [hmay, Int.toNat_natCast, trM_at, hvn, hmv] at hR
  simp only [beq_self_eq_true, Bool.and_self, if_true] at hR
  rw [if_neg (by omega), hkey] at hR
  simp only at hR
  have HS : Hid (PutN w gt gm F G (trM L) M w) := Lib.hid ⟨F, G, ⟨⟨vl, L, rfl, h.maps, hT, hnn⟩, h.mem, h.apart⟩, Turn.refl _ _, fun x hx => .inl hx, fun x hx => .inl hx⟩
  obtain ⟨gl, cl, hvl, k1, k2, hg, e0, e1, e2, e3, e4, e5⟩ := h.maps.at_ hk
  obtain ⟨c0, c1⟩ := h.maps.cells
  rw [hvl] at c1
  unfold maxLen at k2
  have k0 : (0 : Int) ≤ k := by omega
  have k3 : (k : Int) < L.length := by omega
  obtain ⟨mb, hmb⟩ : ∃ mb, (trAt L k).v = .map (some mb) := by
    obtain ⟨mb, e⟩ := h.maps.mapV hk
    cases mb with
    | none => exact absurd e (hnn k hk)
    | some b => exact ⟨b, e⟩
  rw [hmb] at e4
  have LN : Hid (∀ u, Below w.heap.size w u → ∀ ty, (Builtin.len_ #[115] ty #[.map (some mb)]).run Tryz.prog u = .ok (.int .i64 ((trAt L k).m.L.length : Int)) u) := Lib.hid fun u b ty => by
    have hs := (h.maps.own k hk).same (w' := u) (fun x hx => b.block x ((h.maps.own k hk).lt hx))
    rw [hmb] at hs
    exact hs.len hok.kok ty
  have AD : Hid (∀ u, Below w.heap.size w u → Calls Tryz.prog 95 #[.pointer (some ⟨gt, 0, none⟩), .int .i64 (k : Int), .slice B n d, .slice C m c] u
      (if (trAt L k).m.made = 1024 then AddW gt gm vl F G L M (.bool false) u
       else if (pMake M (tArea k (trAt L k).m.made) val false false).2 = 0 then AddW gt gm vl F G (L.set k ⟨⟨(trAt L k).m.d, tIns (trAt L k).m.L ⟨key, (trAt L k).m.made⟩, (trAt L k).m.made + 1⟩, .map (some mb)⟩) (pMake M (tArea k (trAt L k).m.made) val false false).1 (.bool true) u
       else AddW gt gm vl F G L M (.bool false) u)) := Lib.hid fun u b =>
    q9_add u gt gm vl L M F G k key val B C n d m c (h.after b) hk hk1 mb hmb hok.kok hkey (by omega) (by omega) (hb.on (Turn.of_below b) (fun x hx => .inl hx)) hob hn hnd hdm (hv.on (Turn.of_below b) (fun x hx => .inl hx)) hov hvn hmc hcm hM
  have OKI : ¬ (trAt L k).m.d.max ≤ (trAt L k).m.L.length → ¬ 1024 ≤ (trAt L k).m.made → TM.ok ⟨(trAt L k).m.d, tIns (trAt L k).m.L ⟨key, (trAt L k).m.made⟩, (trAt L k).m.made + 1⟩ := fun hf hm => tIns_ok hok key hkey hob (by omega) hf hm
  have PT := Lib.hid fun (u w' : World) (M' : PM) (F' G' : Nat → Prop) (r : TR) (b : Below w.heap.size w u) hr hrf hrv (q : RawN u gt gm vl (L.set k r) M' F G w' F' G') => (rawN_put (M := M) hT hk hnn hr hrf hrv q).before b
  have PS := Lib.hid fun (u w' : World) (M' : PM) (F' G' : Nat → Prop) (b : Below w.heap.size w u) (q : RawN u gt gm vl L M' F G w' F' G') => (rawN_same hT hnn q).before b
  clear h hT hnn hb hv hkey hmb hvl hok hrise hgood hmay
  have E := fun qh qv => below_alloc (Below.refl w.heap.size w) (.cells #[.bool qh, .int .i64 (trAt L k).m.d.key, .int .i64 qv, .int .i64 (trAt L k).m.d.max, .map (some mb), .int .i64 ((trAt L k).m.made : Int)] 117)
  cases hqh : (trAt L k).m.d.hash
  · rw [hqh, if_pos rfl] at hR
    rw [hqh] at e0
    subst hR
    have hfu2 := hfu hqh
    have hL2 := LN.out _ (E false (trAt L k).m.d.val)
    rw [hfu2] at hL2
    clear AD PT PS OKI LN hfu hfu2
    generalize (trAt L k).m.d.key = qk at *
    generalize (trAt L k).m.d.val = qv at *
    generalize (trAt L k).m.d.max = qm at *
    generalize (trAt L k).m.made = qd at *
    have EE := Lib.hid (E false qv)
    clear E
    show Calls _ _ _ _ (fun e w' => e = .returned (.int .u64 18446744073709551609) ∧ (0 : Int) = 0 ∧ PutN w gt gm F G (trM L) M w')
    go_enter Tryz.func99, Tryz.ntmps99
    go_wp2_with fail
    go_ret
    first | exact ⟨rfl, HS.out.next EE.out⟩ | exact ⟨rfl, (by first | rfl | trivial), HS.out.next EE.out⟩
  · rw [hqh, if_neg (by simp)] at hR
    rw [hqh] at e0
    by_cases h2 : fl = 2
    · rw [if_pos h2] at hR
      subst hR h2
      clear AD PT PS OKI LN hfu
      generalize (trAt L k).m.d.key = qk at *
      generalize (trAt L k).m.d.val = qv at *
      generalize (trAt L k).m.d.max = qm at *
      generalize (trAt L k).m.made = qd at *
      have EE := Lib.hid (E true qv)
      clear E
      show Calls _ _ _ _ (fun e w' => e = .returned (.int .u64 18446744073709551614) ∧ (0 : Int) = 0 ∧ PutN w gt gm F G (trM L) M w')
      go_enter Tryz.func99, Tryz.ntmps99
      go_wp2_with fail
      go_ret
      first | exact ⟨rfl, HS.out.next EE.out⟩ | exact ⟨rfl, (by first | rfl | trivial), HS.out.next EE.out⟩
    · rw [if_neg h2] at hR
      have h2' : (fl == 2) = false := by simpa using h2
      by_cases hf : (trAt L k).m.d.max ≤ (trAt L k).m.L.length
      · rw [if_pos hf] at hR
        subst hR
        have hfu2 : ((trAt L k).m.L.length : Int) = (trAt L k).m.d.max := by omega
        have hL2 := LN.out _ (E true (trAt L k).m.d.val)
        rw [hfu2] at hL2
        clear AD PT PS OKI LN hfu hfu2 hf
        generalize (trAt L k).m.d.key = qk at *
        generalize (trAt L k).m.d.val = qv at *
        generalize (trAt L k).m.d.max = qm at *
        generalize (trAt L k).m.made = qd at *
        have EE := Lib.hid (E true qv)
        clear E
        show Calls _ _ _ _ (fun e w' => e = .returned (.int .u64 18446744073709551609) ∧ (0 : Int) = 0 ∧ PutN w gt gm F G (trM L) M w')
        go_enter Tryz.func99, Tryz.ntmps99
        go_wp2_with fail
        go_ret
        first | exact ⟨rfl, HS.out.next EE.out⟩ | exact ⟨rfl, (by first | rfl | trivial), HS.out.next EE.out⟩
      · rw [if_neg hf] at hR
        have hL2 := LN.out _ (E true (trAt L k).m.d.val)
        have hne : (((trAt L k).m.L.length : Int) == (trAt L k).m.d.max) = false := by
          rw [beq_eq_false_iff_ne]; omega
        have OKJ := Lib.hid (OKI hf)
        have EE := Lib.hid (E true (trAt L k).m.d.val)
        have HQ := Lib.hid hqh
        clear LN hfu hfew hf OKI E
        have AN : Hid (∀ u, Below w.heap.size w u → Calls Tryz.prog 95 #[.pointer (some ⟨gt, 0, none⟩), .int .i64 (k : Int), .slice B n d, .slice C m c] u
            (fun e w' => (e = .returned (.bool true) ∧ R.n = 0 ∨ e = .returned (.bool false) ∧ R.n = 18446744073709551604) ∧ R.e = 0 ∧ PutN w gt gm F G R.T R.M w')) := Lib.hid fun u b => by
          refine (AD.out u b).mono fun e w' hw => ?_
          by_cases hm : 1024 ≤ (trAt L k).m.made
          · rw [if_pos hm] at hR
            rw [if_pos (by omega)] at hw
            obtain ⟨rfl, F', G', q⟩ := hw
            subst hR
            exact ⟨.inr ⟨rfl, rfl⟩, rfl, PS.out u w' M F' G' b q⟩
          · rw [if_neg hm] at hR
            rw [if_neg (by omega)] at hw
            by_cases hp : (pMake M (tArea k (trAt L k).m.made) val false false).2 = 0
            · rw [if_pos hp] at hR hw
              obtain ⟨rfl, F', G', q⟩ := hw
              subst hR
              exact ⟨.inl ⟨rfl, rfl⟩, rfl, PT.out u w' _ F' G' _ b (OKJ.out hm) (fun e => by rw [show (trAt L k).m.d.hash = true from HQ.out] at e; cases e) (by simp) q⟩
            · rw [if_neg hp] at hR hw
              obtain ⟨rfl, F', G', q⟩ := hw
              subst hR
              exact ⟨.inr ⟨rfl, rfl⟩, rfl, PS.out u w' M F' G' b q⟩
        clear AD PT PS OKJ hR HQ hqh
        generalize (trAt L k).m.d.key = qk at *
        generalize (trAt L k).m.d.val = qv at *
        generalize (trAt L k).m.d.max = qm at *
        generalize (trAt L k).m.made = qd at *
        generalize (trAt L k).m.L.length = ql at *
        go_enter Tryz.func99, Tryz.ntmps99
        go_wp2_with fail
        refine (AN.out _ EE.out).mono ?_
        rintro e w' ⟨⟨rfl, q1⟩ | ⟨rfl, q1⟩, q2, q3⟩
        · have QQ := Lib.hid (And.intro q1 (And.intro q2 q3))
          clear q1 q2 q3
          go_wp2_with fail
          go_ret
          exact ⟨by rw [QQ.out.1]; rfl, QQ.out.2⟩
        · have QQ := Lib.hid (And.intro q1 (And.intro q2 q3))
          clear q1 q2 q3
          go_wp2_with fail
          go_ret
          exact ⟨by rw [QQ.out.1]; rfl, QQ.out.2⟩
structure Sys where
  R : World → (Nat → Prop) → Prop
  keep : ∀ {w w' : World} {F : Nat → Prop}, R w F → (∀ x, F x → w'.heap[x]? = w.heap[x]?) → R w' F
  lt : ∀ {w : World} {F : Nat → Prop} {x : Nat}, R w F → F x → x < w.heap.size
def sysT (gt gm : Nat) (T : TT) (M : PM) : Sys := ⟨fun w H => ∃ F G, RepD w gt gm T M F G ∧ ∀ x, H x ↔ F x ∨ G x, fun h hs => by
  obtain ⟨F, G, ⟨⟨vl, L, e, h1, h2⟩, ⟨vl2, L2, e2, h3⟩, h4⟩, hH⟩ := h
  exact ⟨F, G, ⟨⟨vl, L, e, h1.keep fun x hx => hs x ((hH x).2 (.inl hx)), h2⟩, ⟨vl2, L2, e2, h3.keep fun x hx => hs x ((hH x).2 (.inr hx))⟩, h4⟩, hH⟩, fun h c => by
  obtain ⟨F, G, h, hH⟩ := h
  rcases (hH _).1 c with c | c
  · exact h.maps.lt c
  · exact h.mem.lt c⟩
def OpS (A : Sys) (F : Nat → Prop) (v : Value) (w : World) (e : Ending) (w' : World) : Prop :=
  e = .returned v ∧ ∃ F', A.R w' F' ∧ Turn F w w' ∧ ∀ x, F' x → F x ∨ w.heap.size ≤ x
def sysR (base : Nat) (e : TypeId) (size : Nat) (v : Value) (n : Nat) (xs : List Value) : Sys := ⟨fun w F => w.ownsRow base e size v n xs ∧ ∀ x, F x ↔ v.ownBlock = some x,
  fun h hs => ⟨own_same h.1 (fun k hk => hs k ((h.2 k).2 hk)), h.2⟩, fun h c => own_lt h.1 ((h.2 _).1 c)⟩
def sysP (X Y : Sys) : Sys := ⟨fun w F => ∃ F1 F2, X.R w F1 ∧ Y.R w F2 ∧ (∀ x, F1 x → ¬ F2 x) ∧ ∀ x, F x ↔ F1 x ∨ F2 x,
  fun h hs => by
    obtain ⟨F1, F2, h1, h2, h3, h4⟩ := h
    exact ⟨F1, F2, X.keep h1 (fun x hx => hs x ((h4 x).2 (.inl hx))), Y.keep h2 (fun x hx => hs x ((h4 x).2 (.inr hx))), h3, h4⟩, fun h c => by
    obtain ⟨F1, F2, h1, h2, h3, h4⟩ := h
    rcases (h4 _).1 c with c | c
    · exact X.lt h1 c
    · exact Y.lt h2 c⟩
section
variable {w0 w u : World} {A B A' B' : Sys} {l : List (Option Addr × List Int)}
end
end Go.Proofs.YtlbhffdpklbhfaaGreat
namespace Go.Proofs.YtlbhffdpklbhfaaGreat
open Go.RowKit
set_option linter.unusedVariables false
abbrev insCells (x : Ins) : Array Value := #[.int .u8 x.op, .int .u8 x.dst, .int .u8 x.src, .int .i16 x.off, .int .i32 x.imm]
def InsAt (w : World) (g o : Nat) (x : Ins) : Prop :=
  w.cell? ⟨g, o, none⟩ = some (.int .u8 x.op) ∧ w.cell? ⟨g, o + 1, none⟩ = some (.int .u8 x.dst) ∧ w.cell? ⟨g, o + 2, none⟩ = some (.int .u8 x.src) ∧ w.cell? ⟨g, o + 3, none⟩ = some (.int .i16 x.off) ∧ w.cell? ⟨g, o + 4, none⟩ = some (.int .i32 x.imm)
theorem InsAt.below {w w' : World} {B g o : Nat} {x : Ins} (h : InsAt w g o x) (b : Below B w w') (hg : g < B) : InsAt w' g o x := by
  obtain ⟨h0, h1, h2, h3, h4⟩ := h
  exact ⟨(b.cell (p := ⟨g, o, none⟩) hg).trans h0, (b.cell (p := ⟨g, o + 1, none⟩) hg).trans h1, (b.cell (p := ⟨g, o + 2, none⟩) hg).trans h2, (b.cell (p := ⟨g, o + 3, none⟩) hg).trans h3, (b.cell (p := ⟨g, o + 4, none⟩) hg).trans h4⟩
theorem InsAt.after {w w' : World} {g o : Nat} {x : Ins} (h : InsAt w g o x) (b : Below w.heap.size w w') (hg : g < w.heap.size) : InsAt w' g o x := h.below b hg
def InsS (w : World) (A : Option Addr) (l : List Ins) : Prop :=
  0 < l.length → ∃ g o, A = some ⟨g, o, none⟩ ∧ g < w.heap.size ∧ ∀ k, k < l.length → InsAt w g (o + k * 5) (iAt l k)
theorem InsS.none_ (w : World) (A : Option Addr) : InsS w A [] := fun h => absurd h (by simp)
theorem InsS.after {w w' : World} {A : Option Addr} {l : List Ins} (h : InsS w A l) (b : Below w.heap.size w w') : InsS w' A l := fun hl => by
  obtain ⟨g, o, e, hg, hc⟩ := h hl
  exact ⟨g, o, e, Nat.lt_of_lt_of_le hg b.size, fun k hk => (hc k hk).after b hg⟩
theorem InsS.at_ {w : World} {A : Option Addr} {l : List Ins} (h : InsS w A l) {k : Nat} (hk : k < l.length) : ∃ g o, A = some ⟨g, o, none⟩ ∧ g < w.heap.size ∧ InsAt w g (o + k * 5) (iAt l k) := by
  obtain ⟨g, o, e, hg, hc⟩ := h (by omega)
  exact ⟨g, o, e, hg, hc k hk⟩
def OkAll (l : List Ins) : Prop := ∀ k, k < l.length → (iAt l k).ok
def iB (g : Nat) (x : Ins) (w : World) : Prop := Blk g (insCells x) 63 w
theorem iB.lt {g : Nat} {x : Ins} {w : World} (h : iB g x w) : g < w.heap.size := Blk.lt h
theorem iB.new (w : World) (x : Ins) {g : Nat} (hg : g = w.heap.size) : iB g x (w.alloc (.cells (insCells x) 63)) := Blk.new w _ _ hg
theorem iB.after {g : Nat} {x : Ins} {w w' : World} (h : iB g x w) (b : Below w.heap.size w w') : iB g x w' := Blk.after h b
theorem iB.cells {g : Nat} {x : Ins} {w : World} (h : iB g x w) : w.cell? ⟨g, 0, none⟩ = some (.int .u8 x.op) ∧ w.cell? ⟨g, 1, none⟩ = some (.int .u8 x.dst) ∧ w.cell? ⟨g, 2, none⟩ = some (.int .u8 x.src) ∧ w.cell? ⟨g, 3, none⟩ = some (.int .i16 x.off) ∧ w.cell? ⟨g, 4, none⟩ = some (.int .i32 x.imm) :=
  ⟨Blk.cell h 0, Blk.cell h 1, Blk.cell h 2, Blk.cell h 3, Blk.cell h 4⟩
end Go.Proofs.YtlbhffdpklbhfaaGreat
