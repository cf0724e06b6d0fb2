/-
  Layer 9's own fill: a value is put in its place, byte by byte.
  Conditions: the numbers fit their kinds; the bytes are not of memory.
-/
import Derived.Test.YtempkpfcjonaaaaRef09b
import Derived.Test.YtempkpfcjonaaaaRef08e
import Derived.Deep.RegionHeld
import Derived.Deep.RegionHeld3
namespace Go.Proofs.Ytempkpfcjonaaaa
open Go.RowKit
set_option maxRecDepth 100000
set_option linter.unusedVariables false
set_option linter.unusedSimpArgs false

/-- Bytes that stay, whatever is done to memory. -/
def Keep (G : Nat → Prop) (w : World) (B : Option Addr) (b : List Int) : Prop := ∀ u, Turn G w u → BytS u B b
theorem keep_of {G : Nat → Prop} {w : World} {B : Option Addr} {b : List Int} (h : BytS w B b) (hG : ∀ g o, B = some ⟨g, o, none⟩ → ¬ G g) : Keep G w B b := fun u t hp => by
  obtain ⟨g, o, e, hg, hc⟩ := h hp
  exact ⟨g, o, e, Nat.lt_of_lt_of_le hg t.size, fun k hk => (World.cell?_of_block (a := ⟨g, o + k, none⟩) (t.block g hg (hG g o e))).trans (hc k hk)⟩
theorem Keep.on {G G' : Nat → Prop} {w w' : World} {B : Option Addr} {b : List Int} (h : Keep G w B b) (t : Turn G w w') (hG : ∀ x, G' x → G x ∨ w.heap.size ≤ x) : Keep G' w' B b := fun u k => h u (t.trans k hG)
theorem Keep.at_ {G : Nat → Prop} {w : World} {B : Option Addr} {b : List Int} (h : Keep G w B b) : BytS w B b := h w (Turn.refl _ _)
/-- The document's own maps, and the memory that they lie in. -/
structure RepB (w : World) (gt g2 : Nat) (T : TT) (M : PM) (F G : Nat → Prop) : Prop where
  maps : RepS w gt g2 T F
  mem : RepR w g2 M G
  apart : ∀ x, F x → ¬ G x
theorem RepB.after {w u : World} {gt g2 : Nat} {T : TT} {M : PM} {F G : Nat → Prop} (h : RepB w gt g2 T M F G) (b : Below w.heap.size w u) : RepB u gt g2 T M F G := ⟨h.maps.after b, h.mem.after b, h.apart⟩
/-- Memory has become another one, beside maps that stay. -/
structure FillW (w0 : World) (gt g2 : Nat) (T : TT) (F G : Nat → Prop) (M : PM) (u : World) (G' : Nat → Prop) : Prop where
  rep : RepB u gt g2 T M F G'
  turn : Turn G w0 u
  foot : ∀ x, G' x → G x ∨ w0.heap.size ≤ x
theorem FillW.after {w0 u u' : World} {gt g2 : Nat} {T : TT} {M : PM} {F G G' : Nat → Prop} (h : FillW w0 gt g2 T F G M u G') (b : Below u.heap.size u u') : FillW w0 gt g2 T F G M u' G' := ⟨h.rep.after b, h.turn.next b, h.foot⟩
theorem FillW.store {w0 u u' : World} {gt g2 : Nat} {T : TT} {M M' : PM} {F G G' : Nat → Prop} {v : Value} {e : Ending} (h : FillW w0 gt g2 T F G M u G') (hF : ∀ x, F x → x < w0.heap.size) (hw : MemW RepR g2 G' M' v u e u') : e = .returned v ∧ ∃ G2, FillW w0 gt g2 T F G M' u' G2 := by
  obtain ⟨he, G2, r, t, hG⟩ := hw
  have hs := h.turn.size
  refine ⟨he, G2, ⟨⟨h.rep.maps.turn t (fun x hF hG => h.rep.apart x hF hG), r, fun x hx hG2 => ?_⟩, h.turn.trans t h.foot, fun x hx => ?_⟩⟩
  · rcases hG x hG2 with c | c
    · exact h.rep.apart x hx c
    · have := hF x hx; omega
  · rcases hG x hx with c | c
    · exact h.foot x c
    · exact .inr (by omega)
theorem tFill_drop (M : PM) (i s : Int) (b : List Int) (j k : Nat) (h : j < b.length) : tFill M i s k (b.drop j) = tFill (pStore M (atI (tArea i s) k) 1 (bAt b j)).1 i s (k + 1) (b.drop (j + 1)) := by
  rw [List.drop_eq_getElem_cons h]
  unfold bAt
  rw [List.getD_eq_getElem?_getD, List.getElem?_eq_getElem h]
  rfl

set_option maxHeartbeats 4000000 in
theorem r9_fill (w : World) (gt g2 : Nat) (T : TT) (M : PM) (F G : Nat → Prop) (i s : Nat) (b : List Int) (B : Option Addr) (n d : Nat) (h : RepB w gt g2 T M F G) (hi : i ≤ 1000) (hs : s ≤ 1024) (hb : Keep G w B b) (hob : OkB b) (hn : b.length = n) (hnd : n ≤ d) (hn1 : n ≤ 1000) :
    Calls Try.prog 56 #[.pointer (some ⟨gt, 0, none⟩), .int .i64 (i : Int), .int .i64 (s : Int), .slice B n d] w (fun e w' => e = .returned (.tuple #[]) ∧ ∃ G', FillW w gt g2 T F G (tFill M i s 0 b) w' G') := by
  have HF : Hid (∀ x, F x → x < w.heap.size) := Lib.hid fun x hx => h.maps.lt hx
  have Q0 : Hid (FillW w gt g2 T F G M w G) := Lib.hid ⟨h, Turn.refl _ _, fun x hx => .inl hx⟩
  have HB := Lib.hid hb
  have HO := Lib.hid hob
  have HN := Lib.hid hn
  clear h hb hob hn
  have i0 : (0 : Int) ≤ i := by omega
  have s0 : (0 : Int) ≤ s := by omega
  go_enter Try.func56, Try.ntmps56
  go_wp2_with fail
  go_loopw [8] (fun iv wr => ∃ (j : Nat) (M' : PM) (G' : Nat → Prop), iv = .int .i64 j ∧ j ≤ n ∧ Hid (tFill M' i s j (b.drop j) = tFill M i s 0 b) ∧ Hid (FillW w gt g2 T F G M' wr G')) (fun iv wr => n - (intOf iv).toNat)
  case atStart => exact ⟨0, M, G, rfl, by omega, Lib.hid rfl, Q0⟩
  case round =>
    clear Q0
    obtain ⟨j, M', G', rfl, hj, HE, Q⟩ := hrel
    have j0 : (0 : Int) ≤ j := by omega
    by_cases hlt : (j : Int) < n
    · have hjn : j < n := by omega
      have HN2 : Hid (tFill (pStore M' (atI (tArea i s) j) 1 (bAt b j)).1 i s (j + 1) (b.drop (j + 1)) = tFill M i s 0 b) := Lib.hid (by rw [← tFill_drop M' i s b j j (by rw [HN.out]; exact hjn)]; exact HE.out)
      obtain ⟨x1, x2⟩ := HO.out j (by rw [HN.out]; exact hjn)
      have hbs := HB.out wr Q.out.turn
      obtain ⟨gb, ob, rfl, hgb, -⟩ := hbs (by rw [HN.out]; omega)
      have HS0 : Hid (∀ M' u G', FillW w gt g2 T F G M' u G' → u.cell? ⟨gt, 0, none⟩ = some (.pointer (some ⟨g2, 0, none⟩)) ∧ u.cell? ⟨gb, ob + j, none⟩ = some (.int .u8 (bAt b j))) := Lib.hid fun M' u G' q => by
        obtain ⟨vl, L, _, hr⟩ := q.rep.maps
        obtain ⟨g', o', e, _, hc⟩ := HB.out u q.turn (by rw [HN.out]; omega)
        cases e
        exact ⟨hr.cells.1, hc j (by rw [HN.out]; exact hjn)⟩
      have AR : Hid (∀ u, Calls Try.prog 22 #[.int .i64 (i : Int), .int .i64 (s : Int)] u (Gives (.int .i64 (tArea i s)) u)) := Lib.hid fun u => r9_Area i s u (by omega) (by omega)
      have AT : Hid (∀ u, Calls Try.prog 55 #[.int .i64 (tArea i s), .int .i64 (j : Int)] u (Gives (.int .u64 (atI (tArea i s) j)) u)) := Lib.hid fun u => r8_At (tArea i s) j u
      have ST : Hid (∀ u, FillW w gt g2 T F G M' u G' → Calls Try.prog 37 #[.pointer (some ⟨g2, 0, none⟩), .int .u64 (atI (tArea i s) j), .int .i64 1, .int .u64 (bAt b j)] u (fun e u' => e = .returned (.int .i64 (pStore M' (atI (tArea i s) j) 1 (bAt b j)).2) ∧ ∃ G2, FillW w gt g2 T F G (pStore M' (atI (tArea i s) j) 1 (bAt b j)).1 u' G2)) := Lib.hid fun u q =>
        (r8_Store u g2 M' G' (atI (tArea i s) j) 1 (bAt b j) q.rep.mem (by unfold atI; omega) (by omega)).mono fun e u' hw => q.store HF.out hw
      clear hbs HE
      generalize (pStore M' (atI (tArea i s) j) 1 (bAt b j)).1 = M2 at *
      generalize (pStore M' (atI (tArea i s) j) 1 (bAt b j)).2 = e2 at *
      generalize atI (tArea i s) j = at_ at *
      generalize tArea i s = ar at *
      generalize bAt b j = x at *
      have hwx : IntKind.u64.wrap x = x := by rw [IntKind.wrap_u64]; omega
      have HS := HS0
      clear HS0
      have hcell := HS.out _ _ _ Q.out
      go_wp2_with fail
      replace Q := Lib.hid (Q.out.after (Below.drew (Below.refl _ _)))
      clear hcell
      refine wp_region_held_drew (S := fun w' => w'.cell? ⟨gt, 0, none⟩ = some (.pointer (some ⟨g2, 0, none⟩)) ∧ w'.cell? ⟨gb, ob + j, none⟩ = some (.int .u8 x)) (by kernel_rfl) (HS.out _ _ _ Q.out) (fun hHeld => ?_)
      refine wpAnyH_take (i := 0) (oi := { dst := some 15, op := Op.move (Operand.tmp 0), type := 35, pos := "ref.go:100", after := #[], guard := none }) (v := ?_) rfl (by kernel_rfl) (by kernel_rfl) (by kernel_rfl) (fun _ _ _ h => h) (Or.inl ⟨by rfl, ?_⟩) (by assumption) ?_
      rotate_left 1
      · intro w hSw; (try dsimp only at hSw); go_simp; try (with_reducible rfl)
      try simp only [Act.put, List.setIfInBounds_toArray, List.set_cons_zero, List.set_cons_succ]
      refine wpAnyH_take (i := 1) (oi := { dst := some 16, op := Op.nilCheck (Operand.tmp 15), type := 0, pos := "ref.go:100", after := #[{ on := 0, ground := Ground.data }], guard := none }) (v := ?_) rfl (by kernel_rfl) (by kernel_rfl) (by kernel_rfl) (fun _ _ _ h => h) (Or.inl ⟨by rfl, ?_⟩) (by assumption) ?_
      rotate_left 1
      · intro w hSw; (try dsimp only at hSw); go_simp; try (with_reducible rfl)
      try simp only [Act.put, List.setIfInBounds_toArray, List.set_cons_zero, List.set_cons_succ]
      refine wpAnyH_take (i := 2) (oi := { dst := some 17, op := Op.fieldAddr 82 (Operand.tmp 16) 0, type := 0, pos := "ref.go:100", after := #[{ on := 1, ground := Ground.data }], guard := none }) (v := ?_) rfl (by kernel_rfl) (by kernel_rfl) (by kernel_rfl) (fun _ _ _ h => h) (Or.inl ⟨by rfl, ?_⟩) (by assumption) ?_
      rotate_left 1
      · intro w hSw; (try dsimp only at hSw); go_simp; try (with_reducible rfl)
      try simp only [Act.put, List.setIfInBounds_toArray, List.set_cons_zero, List.set_cons_succ]
      refine wpAnyH_take (i := 3) (oi := { dst := some 18, op := Op.load 27 (Operand.tmp 17), type := 27, pos := "ref.go:100", after := #[{ on := 2, ground := Ground.data }], guard := none }) (v := ?_) rfl (by kernel_rfl) (by kernel_rfl) (by kernel_rfl) (fun _ _ _ h => h) (Or.inl ⟨by rfl, ?_⟩) (by assumption) ?_
      rotate_left 1
      · intro w hSw; (try dsimp only at hSw); go_simp; try (with_reducible rfl)
      try simp only [Act.put, List.setIfInBounds_toArray, List.set_cons_zero, List.set_cons_succ]
      refine wpAnyH_take (i := 4) (oi := { dst := some 19, op := Op.move (Operand.tmp 1), type := 3, pos := "ref.go:100", after := #[], guard := none }) (v := ?_) rfl (by kernel_rfl) (by kernel_rfl) (by kernel_rfl) (fun _ _ _ h => h) (Or.inl ⟨by rfl, ?_⟩) (by assumption) ?_
      rotate_left 1
      · intro w hSw; (try dsimp only at hSw); go_simp; try (with_reducible rfl)
      try simp only [Act.put, List.setIfInBounds_toArray, List.set_cons_zero, List.set_cons_succ]
      refine wpAnyH_take (i := 5) (oi := { dst := some 20, op := Op.move (Operand.tmp 2), type := 3, pos := "ref.go:100", after := #[], guard := none }) (v := ?_) rfl (by kernel_rfl) (by kernel_rfl) (by kernel_rfl) (fun _ _ _ h => h) (Or.inl ⟨by rfl, ?_⟩) (by assumption) ?_
      rotate_left 1
      · intro w hSw; (try dsimp only at hSw); go_simp; try (with_reducible rfl)
      try simp only [Act.put, List.setIfInBounds_toArray, List.set_cons_zero, List.set_cons_succ]
      refine wpAnyH_take (i := 7) (oi := { dst := some 22, op := Op.move (Operand.tmp 8), type := 3, pos := "ref.go:100", after := #[], guard := none }) (v := ?_) rfl (by kernel_rfl) (by kernel_rfl) (by kernel_rfl) (fun _ _ _ h => h) (Or.inl ⟨by rfl, ?_⟩) (by assumption) ?_
      rotate_left 1
      · intro w hSw; (try dsimp only at hSw); go_simp; try (with_reducible rfl)
      try simp only [Act.put, List.setIfInBounds_toArray, List.set_cons_zero, List.set_cons_succ]
      refine wpAnyH_take (i := 9) (oi := { dst := some 24, op := Op.move (Operand.tmp 3), type := 40, pos := "ref.go:100", after := #[], guard := none }) (v := ?_) rfl (by kernel_rfl) (by kernel_rfl) (by kernel_rfl) (fun _ _ _ h => h) (Or.inl ⟨by rfl, ?_⟩) (by assumption) ?_
      rotate_left 1
      · intro w hSw; (try dsimp only at hSw); go_simp; try (with_reducible rfl)
      try simp only [Act.put, List.setIfInBounds_toArray, List.set_cons_zero, List.set_cons_succ]
      refine wpAnyH_take (i := 10) (oi := { dst := some 25, op := Op.move (Operand.tmp 8), type := 3, pos := "ref.go:100", after := #[], guard := none }) (v := ?_) rfl (by kernel_rfl) (by kernel_rfl) (by kernel_rfl) (fun _ _ _ h => h) (Or.inl ⟨by rfl, ?_⟩) (by assumption) ?_
      rotate_left 1
      · intro w hSw; (try dsimp only at hSw); go_simp; try (with_reducible rfl)
      try simp only [Act.put, List.setIfInBounds_toArray, List.set_cons_zero, List.set_cons_succ]
      refine wpAnyH_take (i := 11) (oi := { dst := some 26, op := Op.indexAddr 40 (Operand.tmp 24) (Operand.tmp 25), type := 0, pos := "ref.go:100", after := #[{ on := 9, ground := Ground.data }, { on := 10, ground := Ground.data }], guard := none }) (v := ?_) rfl (by kernel_rfl) (by kernel_rfl) (by kernel_rfl) (fun _ _ _ h => h) (Or.inl ⟨by rfl, ?_⟩) (by assumption) ?_
      rotate_left 1
      · intro w hSw; (try dsimp only at hSw); go_simp; try (with_reducible rfl)
      try simp only [Act.put, List.setIfInBounds_toArray, List.set_cons_zero, List.set_cons_succ]
      refine wpAnyH_take (i := 12) (oi := { dst := some 27, op := Op.load 5 (Operand.tmp 26), type := 5, pos := "ref.go:100", after := #[{ on := 11, ground := Ground.data }], guard := none }) (v := ?_) rfl (by kernel_rfl) (by kernel_rfl) (by kernel_rfl) (fun _ _ _ h => h) (Or.inl ⟨by rfl, ?_⟩) (by assumption) ?_
      rotate_left 1
      · intro w hSw; (try dsimp only at hSw); go_simp; try (with_reducible rfl)
      try simp only [Act.put, List.setIfInBounds_toArray, List.set_cons_zero, List.set_cons_succ]
      refine wpAnyH_take (i := 13) (oi := { dst := some 28, op := Op.convert 5 41 (Operand.tmp 27), type := 41, pos := "ref.go:100", after := #[{ on := 12, ground := Ground.data }], guard := none }) (v := ?_) rfl (by kernel_rfl) (by kernel_rfl) (by kernel_rfl) (fun _ _ _ h => h) (Or.inl ⟨by rfl, ?_⟩) (by assumption) ?_
      rotate_left 1
      · intro w hSw; (try dsimp only at hSw); go_simp; try (with_reducible rfl)
      try simp only [Act.put, List.setIfInBounds_toArray, List.set_cons_zero, List.set_cons_succ]
      refine wpAnyH_ready (rs := [6]) (by kernel_rfl) (by simp) ?_
      refine AllReadyH.cons (o := { dst := some 21, op := Op.call { callee := Callee.value (Operand.func 22), args := #[Operand.tmp 19, Operand.tmp 20], argTypes := #[3, 3] }, type := 3, pos := "ref.go:100", after := #[{ on := 4, ground := Ground.data }, { on := 5, ground := Ground.data }], guard := none }) rfl (fun K hK => ?_) AllReadyH.nil
      · skip
        go_simp
        refine (AR.out _).mono ?_; rintro e u1 ⟨rfl, b1⟩
        replace Q := Lib.hid (Q.out.after b1)
        clear b1
        go_wp2_with fail
        refine hK.out _ _ (HS.out _ _ _ Q.out) (fun hHeld => ?_)
        clear hK K
        try simp only [Act.put, List.setIfInBounds_toArray, List.set_cons_zero, List.set_cons_succ]
        refine wpAnyH_ready (rs := [8]) (by kernel_rfl) (by simp) ?_
        refine AllReadyH.cons (o := { dst := some 23, op := Op.call { callee := Callee.value (Operand.func 55), args := #[Operand.tmp 21, Operand.tmp 22], argTypes := #[3, 3] }, type := 41, pos := "ref.go:100", after := #[{ on := 6, ground := Ground.data }, { on := 7, ground := Ground.data }, { on := 6, ground := Ground.chain }], guard := none }) rfl (fun K hK => ?_) AllReadyH.nil
        · skip
          go_simp
          refine (AT.out _).mono ?_; rintro e u2 ⟨rfl, b2⟩
          replace Q := Lib.hid (Q.out.after b2)
          clear b2
          go_wp2_with fail
          refine hK.out _ _ (HS.out _ _ _ Q.out) (fun hHeld => ?_)
          clear hK K
          try simp only [Act.put, List.setIfInBounds_toArray, List.set_cons_zero, List.set_cons_succ]
          refine wpAnyH_ready (rs := [14]) (by kernel_rfl) (by simp) ?_
          refine AllReadyH.cons (o := { dst := some 29, op := Op.call { callee := Callee.value (Operand.func 37), args := #[Operand.tmp 18, Operand.tmp 23, Operand.const (Value.int IntKind.i64 1), Operand.tmp 28], argTypes := #[27, 41, 3, 41] }, type := 32, pos := "ref.go:100", after := #[{ on := 3, ground := Ground.data }, { on := 8, ground := Ground.data }, { on := 13, ground := Ground.data }, { on := 8, ground := Ground.chain }], guard := none }) rfl (fun K hK => ?_) AllReadyH.nil
          · skip
            go_simp
            refine (ST.out _ Q.out).mono ?_; rintro e u3 ⟨rfl, G2, q3⟩
            have Q3 := Lib.hid q3
            clear q3 hHeld
            have hHeld := HS.out _ _ _ Q3.out
            go_wp2_with fail
            refine hK.out _ _ (HS.out _ _ _ Q3.out) (fun hHeld => ?_)
            clear hK K
            try simp only [Act.put, List.setIfInBounds_toArray, List.set_cons_zero, List.set_cons_succ]
            refine wpAnyH_done (by kernel_rfl) ?_ _
            clear hHeld HS AR AT ST
            go_wp2_with fail
            go_round
            case rel => exact ⟨j + 1, _, _, by go_num, by omega, HN2, Q3⟩
            case measure => simp [intOf]; omega
    · have hjn : j = n := by omega
      subst hjn
      have HE2 : Hid (M' = tFill M i s 0 b) := Lib.hid (by
        have := HE.out
        rw [List.drop_eq_nil_of_le (by rw [HN.out]; omega)] at this
        exact this)
      go_wp2_with fail
      go_end0
      refine ⟨rfl, G', ?_⟩
      rw [← HE2.out]
      exact Q.out

end Go.Proofs.Ytempkpfcjonaaaa
