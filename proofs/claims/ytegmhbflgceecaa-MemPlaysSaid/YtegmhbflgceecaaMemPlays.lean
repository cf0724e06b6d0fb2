/-
  P8.1, P8.2: whatever areas are made, numbers stored and loaded, memory is the document's: the walk of the statement MemPlays.
  Conditions: none beyond the row's own.
-/
import Derived.Test.YtegmhbflgceecaaMemTwo
import Derived.Test.YtegmhbflgceecaaMemFew
import Derived.Test.YtegmhbflgceecaaByteStr
import Derived.Deep.RegionHeld
import Derived.Deep.RegionHeld3
namespace Go.Proofs.Ytegmhbflgceecaa
open Go.RowKit
set_option linter.unusedVariables false
set_option linter.unusedSimpArgs false

theorem atI_in (a o : Int) : 0 ≤ atI a o ∧ atI a o ≤ 18446744073709551615 := by unfold atI; omega
theorem pMake_len (M : PM) (i : Int) (b : List Int) (bl fx : Bool) : (pMake M i b bl fx).1.length ≤ M.length + 1 := by
  unfold pMake
  split
  · simp
  · split
    · simp
    · simp
theorem pStore_len (M : PM) (a s n : Int) : (pStore M a s n).1.length = M.length := by
  unfold pStore
  split
  · split
    · rfl
    · split
      · rfl
      · simp
  · rfl

set_option maxRecDepth 100000 in
set_option maxHeartbeats 8000000 in
theorem l8_MemPlays (w : World) (A : Option Addr) (c : Nat) (l : List Ac) (hl : ActS w A l) (hok : ∀ k, k < l.length → (acAt l k).ok w) (hlc : l.length ≤ c) (hc : c ≤ maxLen) :
    Calls Try.prog 3 #[.slice A l.length c] w (Fine w) := by
  have SH := Lib.hid l8_shown
  have NW := Lib.hid c8_New
  have FW : Hid (∀ u, Below w.heap.size w u → Calls Try.prog 11 #[.slice A l.length c] u _) := Lib.hid fun u b => l8_few u A c l (fun h => by
    obtain ⟨g, o, e, hg, hcell⟩ := hl h
    exact ⟨g, o, e, Nat.lt_of_lt_of_le hg b.size, fun k hk j hj => (b.cell (p := ⟨g, o + k * 8 + j, none⟩) hg).trans (hcell k hk j hj)⟩) hlc hc
  have HMEM : Hid (∀ a ∈ fewJ l l.length, a.ok w ∧ a.b.length ≤ 1100) := Lib.hid fun a ha => by
    obtain ⟨h1, k, hk, rfl⟩ := fewJ_mem l l.length (Nat.le_refl _) a ha
    exact ⟨hok k hk, h1⟩
  have HLEN : Hid ((fewJ l l.length).length ≤ 100) := Lib.hid (fewJ_len l l.length).2
  clear hl hok
  generalize l.length = ln at *
  generalize hL : fewJ l ln = L at *
  clear hL hlc hc
  go_enter Try.func3, Try.ntmps3
  go_wp2_with fail
  refine (SH.out _).mono ?_
  rintro e w1 ⟨rfl, b1⟩
  have V := Lib.hid b1
  clear b1 SH
  go_wp2_with fail
  refine (NW.out _).mono ?_
  rintro e w2 ⟨g1, F, rfl, q1, b2, q3⟩
  have Q0 : Hid (Two w g1 w2.heap.size [] [] [] (w2.alloc (.cells #[.slice none 0 0] 29))) := Lib.hid (by
    have v2 := below_next' V.out b2
    have s1 := V.out.size
    have s2 := b2.size
    refine ⟨below_alloc v2 _, ⟨F, _, q1.after (below_alloc (Below.refl _ _) _), RepR.new w2, fun x hF hx => ?_, fun x hx => by have := q3 x hx; omega, fun x hx => by have hx' : x = w2.heap.size := hx; omega, fun p hp => by cases hp⟩, fun p hp => by cases hp⟩
    have := q1.lt hF
    have hx' : x = w2.heap.size := hx
    omega)
  have G1 : Hid (g1 < w2.heap.size) := Lib.hid (by
    obtain ⟨mv, L', _, h⟩ := q1
    exact h.lt h.foot0)
  clear q1 b2 q3 V NW
  go_wp2_with fail
  generalize hg2 : w2.heap.size = g2 at *
  generalize hw3 : w2.alloc (.cells #[.slice none 0 0] 29) = w3 at *
  clear hg2 hw3
  refine (FW.out _ Q0.out.below).mono ?_
  rintro e w4 ⟨v, rfl, ho, b4⟩
  obtain ⟨Ar, cr, rfl, hcr1, hcr2⟩ := own_slice ho
  by_cases hz : L.length = 0
  · have QQ := Lib.hid (Q0.out.after b4).below
    rw [hz]
    clear ho b4 hcr1 Q0 HMEM HLEN
    go_wp2_with fail
    go_loop [31] (fun v => v = .int .i64 0) (fun v => 0)
    case atStart => rfl
    case round =>
      subst hrel
      go_wp2_with fail
      go_ret
      exact ⟨rfl, QQ.out⟩
  obtain ⟨gr, rfl, hgr, hgr2⟩ := own_addr ho (by omega)
  obtain ⟨cur, hcur, hcells⟩ : ∃ cur : Array Value, w4.heap[gr]? = some (.cells cur 34 (0, 0)) ∧ ∀ k, k < L.length * 8 → cur[k]? = (acC L)[k]? := by
    rcases ho.2 with ⟨h, _⟩ | ⟨g', cap, cur, h, _, hh, _, _, _, ht⟩
    · cases h
    · cases h
      refine ⟨cur, hh, fun k hk => ?_⟩
      rw [← ht, List.getElem?_take, if_pos (by omega)]
      simp
  have Q1 : Hid (Two w g1 g2 [] [] [(gr, cur, 34)] w4) := Lib.hid (Q0.out.add b4 hgr hcur)
  have CUR : Hid (∀ k, k < L.length → ∀ r, r < 8 → cur[k * 8 + r]? = (cAc (acAt L k))[r]?) := Lib.hid fun k hk r hr => by
    rw [hcells _ (by omega), acC_at L k r hk hr]
  clear ho b4 hcur hcells hgr hgr2 Q0 hz FW
  generalize hn : L.length = n at *
  have HN := Lib.hid hn
  clear hn
  have hn100 := HLEN.out
  unfold maxLen at hcr2
  go_wp2_with fail
  go_loopw [31] (fun iv wr => ∃ (j : Nat) (M : PM), iv = .int .i64 j ∧ j ≤ n ∧ Hid (Two w g1 g2 M M [(gr, cur, 34)] wr ∧ M.length ≤ j)) (fun iv wr => n - (intOf iv).toNat)
  case atStart => exact ⟨0, [], rfl, by omega, Lib.hid ⟨Q1.out, Nat.le_refl _⟩⟩
  case round =>
    clear Q1
    obtain ⟨j, M, rfl, hj, QM⟩ := hrel
    have j0 : (0 : Int) ≤ j := by omega
    by_cases hlt : (j : Int) < n
    · have hjn : j < n := by omega
      have hML : Hid (M.length ≤ j) := Lib.hid QM.out.2
      obtain ⟨OK, LB⟩ := HMEM.out (acAt L j) (acAt_mem (by rw [HN.out]; exact hjn))
      have hC : ∀ r, r < 8 → wr.cell? ⟨gr, j * 8 + r, none⟩ = (cAc (acAt L j))[r]? := fun r hr => (QM.out.1.head.cell (j * 8 + r)).trans (CUR.out j hjn r hr)
      have c0 : wr.cell? ⟨gr, j * 8, none⟩ = some (.int .u8 (acAt L j).kind) := hC 0 (by omega)
      have c1 : wr.cell? ⟨gr, j * 8 + 1, none⟩ = some (.int .i64 (acAt L j).area) := hC 1 (by omega)
      have c2 : wr.cell? ⟨gr, j * 8 + 2, none⟩ = some (.int .i64 (acAt L j).off) := hC 2 (by omega)
      have c3 : wr.cell? ⟨gr, j * 8 + 3, none⟩ = some (.int .i64 (acAt L j).size) := hC 3 (by omega)
      have c4 : wr.cell? ⟨gr, j * 8 + 4, none⟩ = some (.int .u64 (acAt L j).n) := hC 4 (by omega)
      have c5 : wr.cell? ⟨gr, j * 8 + 5, none⟩ = some (.slice (acAt L j).at_ (acAt L j).b.length (acAt L j).cap) := hC 5 (by omega)
      have c6 : wr.cell? ⟨gr, j * 8 + 6, none⟩ = some (.bool (acAt L j).bl) := hC 6 (by omega)
      have c7 : wr.cell? ⟨gr, j * 8 + 7, none⟩ = some (.bool (acAt L j).fx) := hC 7 (by omega)
      obtain ⟨k0, k1, k2, k3, k4, HB, HO, hcap, hcap2⟩ := OK
      clear hC
      generalize acAt L j = a at *
      generalize a.kind = x0 at *
      generalize a.area = x1 at *
      generalize a.off = x2 at *
      generalize a.size = x3 at *
      generalize a.n = x4 at *
      generalize a.at_ = x5 at *
      generalize a.cap = x6 at *
      generalize a.bl = x7 at *
      generalize a.fx = x8 at *
      generalize a.b = b at *
      replace HB := Lib.hid HB
      replace HO := Lib.hid HO
      generalize hb : b.length = lb at *
      have HLB := Lib.hid hb
      clear hb
      have Q : Hid (Two w g1 g2 M M [(wr.heap.size, #[.int .u8 x0, .int .i64 x1, .int .i64 x2, .int .i64 x3, .int .u64 x4, .slice x5 lb x6, .bool x7, .bool x8], 34), (gr, cur, 34)] (wr.alloc (.cells #[.int .u8 x0, .int .i64 x1, .int .i64 x2, .int .i64 x3, .int .u64 x4, .slice x5 lb x6, .bool x7, .bool x8] 34))) := Lib.hid (QM.out.1.add (below_alloc (Below.refl _ _) _) (Nat.le_refl _) (Blk.new wr _ _ rfl))
      have AT1 : Hid (∀ u, Calls Try.prog 12 #[.int .i64 x1, .int .i64 x2] u (Gives (.int .u64 (atI x1 x2)) u)) := Lib.hid fun u => c8_At x1 x2 u
      have AT2 : Hid (∀ u, Calls Try.prog 13 #[.int .i64 x1, .int .i64 x2] u (Gives (.int .u64 (atI x1 x2)) u)) := Lib.hid fun u => r8_At x1 x2 u
      have hat := atI_in x1 x2
      have hat' := Lib.hid hat
      generalize atI x1 x2 = at_ at *
      have ht : x0.tmod 5 = x0 % 5 := Int.tmod_eq_emod_of_nonneg k0.1
      clear QM CUR HMEM
      go_upto_region 8 with fail
      generalize hgx : wr.heap.size = gx at *
      generalize hwx : wr.alloc (.cells #[.int .u8 x0, .int .i64 x1, .int .i64 x2, .int .i64 x3, .int .u64 x4, .slice x5 lb x6, .bool x7, .bool x8] 34) = u0 at *
      clear hgx hwx c0 c1 c2 c3 c4 c5 c6 c7
      have d1 := Q.out.head.cell 1
      have d2 := Q.out.head.cell 2
      go_wp2_with fail
      refine (AT1.out _).mono ?_
      rintro e u1 ⟨rfl, b1⟩
      replace Q := Lib.hid (Q.out.after b1)
      clear b1 d1 d2
      have d1 := Q.out.head.cell 1
      have d2 := Q.out.head.cell 2
      go_wp2_with fail
      refine (AT2.out _).mono ?_
      rintro e u2 ⟨rfl, b2⟩
      replace Q := Lib.hid (Q.out.after b2)
      clear b2 d1 d2 AT1 AT2
      have d0 := Q.out.head.cell 0
      have d1 := Q.out.head.cell 1
      have d3 := Q.out.head.cell 3
      have d4 := Q.out.head.cell 4
      have d5 := Q.out.head.cell 5
      have d6 := Q.out.head.cell 6
      have d7 := Q.out.head.cell 7
      have hk : x0 % 5 = 0 ∨ x0 % 5 = 1 ∨ x0 % 5 = 2 ∨ x0 % 5 = 3 ∨ x0 % 5 = 4 := by omega
      rcases hk with hk | hk | hk | hk | hk
      · rw [hk] at ht
        go_upto_region 13 with fail
        clear d0 d1 d3 d4 d5 d6 d7
        replace Q := Lib.hid (Q.out.after (Below.drew (Below.refl _ _)))
        have ML0 : Hid (M.length ≤ 100000) := Lib.hid (by have := hML.out; omega)
        have HS : Hid (∀ M' N' u', Two w g1 g2 M' N' [(gx, #[.int .u8 x0, .int .i64 x1, .int .i64 x2, .int .i64 x3, .int .u64 x4, .slice x5 lb x6, .bool x7, .bool x8], 34), (gr, cur, 34)] u' → u'.cell? ⟨gx, 1, none⟩ = some (.int .i64 x1) ∧ u'.cell? ⟨gx, 5, none⟩ = some (.slice x5 lb x6) ∧ u'.cell? ⟨gx, 6, none⟩ = some (.bool x7) ∧ u'.cell? ⟨gx, 7, none⟩ = some (.bool x8)) := Lib.hid fun M' N' u' h => ⟨h.head.cell 1, h.head.cell 5, h.head.cell 6, h.head.cell 7⟩
        refine wp_region_held_drew (S := fun w' => w'.cell? ⟨gx, 1, none⟩ = some (.int .i64 x1) ∧ w'.cell? ⟨gx, 5, none⟩ = some (.slice x5 lb x6) ∧ w'.cell? ⟨gx, 6, none⟩ = some (.bool x7) ∧ w'.cell? ⟨gx, 7, none⟩ = some (.bool x8)) (by kernel_rfl) (HS.out _ _ _ Q.out) (fun hHeld => ?_)
        refine wpAnyH_take (i := 0) (oi := { dst := some 70, op := Op.move (Operand.tmp 9), type := 4, pos := "law.go:55", after := #[], guard := none }) (v := ?_) rfl (by kernel_rfl) (by kernel_rfl) (by kernel_rfl) (fun _ _ _ h => h) (Or.inl ⟨by rfl, ?_⟩) (by assumption) ?_
        rotate_left 1
        · intro w hSw; (try dsimp only at hSw); go_simp; try (with_reducible rfl)
        try simp only [Act.put, List.setIfInBounds_toArray, List.set_cons_zero, List.set_cons_succ]
        refine wpAnyH_take (i := 1) (oi := { dst := some 71, op := Op.move (Operand.tmp 70), type := 4, pos := "law.go:55", after := #[{ on := 0, ground := Ground.data }], guard := none }) (v := ?_) rfl (by kernel_rfl) (by kernel_rfl) (by kernel_rfl) (fun _ _ _ h => h) (Or.inl ⟨by rfl, ?_⟩) (by assumption) ?_
        rotate_left 1
        · intro w hSw; (try dsimp only at hSw); go_simp; try (with_reducible rfl)
        try simp only [Act.put, List.setIfInBounds_toArray, List.set_cons_zero, List.set_cons_succ]
        refine wpAnyH_take (i := 2) (oi := { dst := some 72, op := Op.move (Operand.tmp 4), type := 24, pos := "law.go:55", after := #[{ on := 1, ground := Ground.guard }], guard := some (1, true) }) (v := ?_) rfl (by kernel_rfl) (by kernel_rfl) (by kernel_rfl) (fun _ _ _ h => h) (Or.inl ⟨by rfl, ?_⟩) (by assumption) ?_
        rotate_left 1
        · intro w hSw; (try dsimp only at hSw); go_simp; try (with_reducible rfl)
        try simp only [Act.put, List.setIfInBounds_toArray, List.set_cons_zero, List.set_cons_succ]
        refine wpAnyH_take (i := 3) (oi := { dst := some 73, op := Op.fieldAddr 34 (Operand.tmp 7) 1, type := 0, pos := "law.go:55", after := #[{ on := 1, ground := Ground.guard }], guard := some (1, true) }) (v := ?_) rfl (by kernel_rfl) (by kernel_rfl) (by kernel_rfl) (fun _ _ _ h => h) (Or.inl ⟨by rfl, ?_⟩) (by assumption) ?_
        rotate_left 1
        · intro w hSw; (try dsimp only at hSw); go_simp; try (with_reducible rfl)
        try simp only [Act.put, List.setIfInBounds_toArray, List.set_cons_zero, List.set_cons_succ]
        refine wpAnyH_take (i := 4) (oi := { dst := some 74, op := Op.load 3 (Operand.tmp 73), type := 3, pos := "law.go:55", after := #[{ on := 3, ground := Ground.data }, { on := 1, ground := Ground.guard }], guard := some (1, true) }) (v := ?_) rfl (by kernel_rfl) (by kernel_rfl) (by kernel_rfl) (fun _ _ _ h => h) (Or.inl ⟨by rfl, ?_⟩) (by assumption) ?_
        rotate_left 1
        · intro w hSw; (try dsimp only at hSw); go_simp; try (with_reducible rfl)
        try simp only [Act.put, List.setIfInBounds_toArray, List.set_cons_zero, List.set_cons_succ]
        refine wpAnyH_take (i := 5) (oi := { dst := some 75, op := Op.fieldAddr 34 (Operand.tmp 7) 5, type := 0, pos := "law.go:55", after := #[{ on := 1, ground := Ground.guard }], guard := some (1, true) }) (v := ?_) rfl (by kernel_rfl) (by kernel_rfl) (by kernel_rfl) (fun _ _ _ h => h) (Or.inl ⟨by rfl, ?_⟩) (by assumption) ?_
        rotate_left 1
        · intro w hSw; (try dsimp only at hSw); go_simp; try (with_reducible rfl)
        try simp only [Act.put, List.setIfInBounds_toArray, List.set_cons_zero, List.set_cons_succ]
        refine wpAnyH_take (i := 6) (oi := { dst := some 76, op := Op.load 32 (Operand.tmp 75), type := 32, pos := "law.go:55", after := #[{ on := 5, ground := Ground.data }, { on := 1, ground := Ground.guard }], guard := some (1, true) }) (v := ?_) rfl (by kernel_rfl) (by kernel_rfl) (by kernel_rfl) (fun _ _ _ h => h) (Or.inl ⟨by rfl, ?_⟩) (by assumption) ?_
        rotate_left 1
        · intro w hSw; (try dsimp only at hSw); go_simp; try (with_reducible rfl)
        try simp only [Act.put, List.setIfInBounds_toArray, List.set_cons_zero, List.set_cons_succ]
        refine wpAnyH_take (i := 7) (oi := { dst := some 77, op := Op.fieldAddr 34 (Operand.tmp 7) 6, type := 0, pos := "law.go:55", after := #[{ on := 1, ground := Ground.guard }], guard := some (1, true) }) (v := ?_) rfl (by kernel_rfl) (by kernel_rfl) (by kernel_rfl) (fun _ _ _ h => h) (Or.inl ⟨by rfl, ?_⟩) (by assumption) ?_
        rotate_left 1
        · intro w hSw; (try dsimp only at hSw); go_simp; try (with_reducible rfl)
        try simp only [Act.put, List.setIfInBounds_toArray, List.set_cons_zero, List.set_cons_succ]
        refine wpAnyH_take (i := 8) (oi := { dst := some 78, op := Op.load 4 (Operand.tmp 77), type := 4, pos := "law.go:55", after := #[{ on := 7, ground := Ground.data }, { on := 1, ground := Ground.guard }], guard := some (1, true) }) (v := ?_) rfl (by kernel_rfl) (by kernel_rfl) (by kernel_rfl) (fun _ _ _ h => h) (Or.inl ⟨by rfl, ?_⟩) (by assumption) ?_
        rotate_left 1
        · intro w hSw; (try dsimp only at hSw); go_simp; try (with_reducible rfl)
        try simp only [Act.put, List.setIfInBounds_toArray, List.set_cons_zero, List.set_cons_succ]
        refine wpAnyH_take (i := 9) (oi := { dst := some 79, op := Op.fieldAddr 34 (Operand.tmp 7) 7, type := 0, pos := "law.go:55", after := #[{ on := 1, ground := Ground.guard }], guard := some (1, true) }) (v := ?_) rfl (by kernel_rfl) (by kernel_rfl) (by kernel_rfl) (fun _ _ _ h => h) (Or.inl ⟨by rfl, ?_⟩) (by assumption) ?_
        rotate_left 1
        · intro w hSw; (try dsimp only at hSw); go_simp; try (with_reducible rfl)
        try simp only [Act.put, List.setIfInBounds_toArray, List.set_cons_zero, List.set_cons_succ]
        refine wpAnyH_take (i := 10) (oi := { dst := some 80, op := Op.load 4 (Operand.tmp 79), type := 4, pos := "law.go:55", after := #[{ on := 9, ground := Ground.data }, { on := 1, ground := Ground.guard }], guard := some (1, true) }) (v := ?_) rfl (by kernel_rfl) (by kernel_rfl) (by kernel_rfl) (fun _ _ _ h => h) (Or.inl ⟨by rfl, ?_⟩) (by assumption) ?_
        rotate_left 1
        · intro w hSw; (try dsimp only at hSw); go_simp; try (with_reducible rfl)
        try simp only [Act.put, List.setIfInBounds_toArray, List.set_cons_zero, List.set_cons_succ]
        refine wpAnyH_take (i := 12) (oi := { dst := some 82, op := Op.move (Operand.tmp 5), type := 26, pos := "law.go:55", after := #[{ on := 1, ground := Ground.guard }], guard := some (1, true) }) (v := ?_) rfl (by kernel_rfl) (by kernel_rfl) (by kernel_rfl) (fun _ _ _ h => h) (Or.inl ⟨by rfl, ?_⟩) (by assumption) ?_
        rotate_left 1
        · intro w hSw; (try dsimp only at hSw); go_simp; try (with_reducible rfl)
        try simp only [Act.put, List.setIfInBounds_toArray, List.set_cons_zero, List.set_cons_succ]
        refine wpAnyH_take (i := 13) (oi := { dst := some 83, op := Op.fieldAddr 34 (Operand.tmp 7) 1, type := 0, pos := "law.go:55", after := #[{ on := 1, ground := Ground.guard }], guard := some (1, true) }) (v := ?_) rfl (by kernel_rfl) (by kernel_rfl) (by kernel_rfl) (fun _ _ _ h => h) (Or.inl ⟨by rfl, ?_⟩) (by assumption) ?_
        rotate_left 1
        · intro w hSw; (try dsimp only at hSw); go_simp; try (with_reducible rfl)
        try simp only [Act.put, List.setIfInBounds_toArray, List.set_cons_zero, List.set_cons_succ]
        refine wpAnyH_take (i := 14) (oi := { dst := some 84, op := Op.load 3 (Operand.tmp 83), type := 3, pos := "law.go:55", after := #[{ on := 13, ground := Ground.data }, { on := 1, ground := Ground.guard }], guard := some (1, true) }) (v := ?_) rfl (by kernel_rfl) (by kernel_rfl) (by kernel_rfl) (fun _ _ _ h => h) (Or.inl ⟨by rfl, ?_⟩) (by assumption) ?_
        rotate_left 1
        · intro w hSw; (try dsimp only at hSw); go_simp; try (with_reducible rfl)
        try simp only [Act.put, List.setIfInBounds_toArray, List.set_cons_zero, List.set_cons_succ]
        refine wpAnyH_take (i := 15) (oi := { dst := some 85, op := Op.fieldAddr 34 (Operand.tmp 7) 5, type := 0, pos := "law.go:55", after := #[{ on := 1, ground := Ground.guard }], guard := some (1, true) }) (v := ?_) rfl (by kernel_rfl) (by kernel_rfl) (by kernel_rfl) (fun _ _ _ h => h) (Or.inl ⟨by rfl, ?_⟩) (by assumption) ?_
        rotate_left 1
        · intro w hSw; (try dsimp only at hSw); go_simp; try (with_reducible rfl)
        try simp only [Act.put, List.setIfInBounds_toArray, List.set_cons_zero, List.set_cons_succ]
        refine wpAnyH_take (i := 16) (oi := { dst := some 86, op := Op.load 32 (Operand.tmp 85), type := 32, pos := "law.go:55", after := #[{ on := 15, ground := Ground.data }, { on := 1, ground := Ground.guard }], guard := some (1, true) }) (v := ?_) rfl (by kernel_rfl) (by kernel_rfl) (by kernel_rfl) (fun _ _ _ h => h) (Or.inl ⟨by rfl, ?_⟩) (by assumption) ?_
        rotate_left 1
        · intro w hSw; (try dsimp only at hSw); go_simp; try (with_reducible rfl)
        try simp only [Act.put, List.setIfInBounds_toArray, List.set_cons_zero, List.set_cons_succ]
        refine wpAnyH_take (i := 17) (oi := { dst := some 87, op := Op.fieldAddr 34 (Operand.tmp 7) 6, type := 0, pos := "law.go:55", after := #[{ on := 1, ground := Ground.guard }], guard := some (1, true) }) (v := ?_) rfl (by kernel_rfl) (by kernel_rfl) (by kernel_rfl) (fun _ _ _ h => h) (Or.inl ⟨by rfl, ?_⟩) (by assumption) ?_
        rotate_left 1
        · intro w hSw; (try dsimp only at hSw); go_simp; try (with_reducible rfl)
        try simp only [Act.put, List.setIfInBounds_toArray, List.set_cons_zero, List.set_cons_succ]
        refine wpAnyH_take (i := 18) (oi := { dst := some 88, op := Op.load 4 (Operand.tmp 87), type := 4, pos := "law.go:55", after := #[{ on := 17, ground := Ground.data }, { on := 1, ground := Ground.guard }], guard := some (1, true) }) (v := ?_) rfl (by kernel_rfl) (by kernel_rfl) (by kernel_rfl) (fun _ _ _ h => h) (Or.inl ⟨by rfl, ?_⟩) (by assumption) ?_
        rotate_left 1
        · intro w hSw; (try dsimp only at hSw); go_simp; try (with_reducible rfl)
        try simp only [Act.put, List.setIfInBounds_toArray, List.set_cons_zero, List.set_cons_succ]
        refine wpAnyH_take (i := 19) (oi := { dst := some 89, op := Op.fieldAddr 34 (Operand.tmp 7) 7, type := 0, pos := "law.go:55", after := #[{ on := 1, ground := Ground.guard }], guard := some (1, true) }) (v := ?_) rfl (by kernel_rfl) (by kernel_rfl) (by kernel_rfl) (fun _ _ _ h => h) (Or.inl ⟨by rfl, ?_⟩) (by assumption) ?_
        rotate_left 1
        · intro w hSw; (try dsimp only at hSw); go_simp; try (with_reducible rfl)
        try simp only [Act.put, List.setIfInBounds_toArray, List.set_cons_zero, List.set_cons_succ]
        refine wpAnyH_take (i := 20) (oi := { dst := some 90, op := Op.load 4 (Operand.tmp 89), type := 4, pos := "law.go:55", after := #[{ on := 19, ground := Ground.data }, { on := 1, ground := Ground.guard }], guard := some (1, true) }) (v := ?_) rfl (by kernel_rfl) (by kernel_rfl) (by kernel_rfl) (fun _ _ _ h => h) (Or.inl ⟨by rfl, ?_⟩) (by assumption) ?_
        rotate_left 1
        · intro w hSw; (try dsimp only at hSw); go_simp; try (with_reducible rfl)
        try simp only [Act.put, List.setIfInBounds_toArray, List.set_cons_zero, List.set_cons_succ]
        refine wpAnyH_ready (rs := [11]) (by kernel_rfl) (by simp) ?_
        refine AllReadyH.cons (o := { dst := some 81, op := Op.call { callee := Callee.value (Operand.func 14), args := #[Operand.tmp 72, Operand.tmp 74, Operand.tmp 76, Operand.tmp 78, Operand.tmp 80], argTypes := #[24, 3, 32, 4, 4] }, type := 36, pos := "law.go:55", after := #[{ on := 2, ground := Ground.data }, { on := 4, ground := Ground.data }, { on := 6, ground := Ground.data }, { on := 8, ground := Ground.data }, { on := 10, ground := Ground.data }, { on := 1, ground := Ground.chain }, { on := 1, ground := Ground.guard }], guard := some (1, true) }) rfl (fun K hK => ?_) AllReadyH.nil
        · skip
          go_simp
          refine (tp_Make x1 b x5 lb x6 x7 x8 Q.out (HB.out.after Q.out.below) HO.out HLB.out hcap hcap2 ML0.out k1).mono ?_; rintro e u1 ⟨rfl, q⟩
          replace Q := Lib.hid q
          clear q
          go_wp2_with fail
          refine hK.out _ _ (HS.out _ _ _ Q.out) (fun hHeld => ?_)
          clear hK K
          try simp only [Act.put, List.setIfInBounds_toArray, List.set_cons_zero, List.set_cons_succ]
          refine wpAnyH_ready (rs := [21]) (by kernel_rfl) (by simp) ?_
          refine AllReadyH.cons (o := { dst := some 91, op := Op.call { callee := Callee.value (Operand.func 15), args := #[Operand.tmp 82, Operand.tmp 84, Operand.tmp 86, Operand.tmp 88, Operand.tmp 90], argTypes := #[26, 3, 32, 4, 4] }, type := 36, pos := "law.go:55", after := #[{ on := 12, ground := Ground.data }, { on := 14, ground := Ground.data }, { on := 16, ground := Ground.data }, { on := 18, ground := Ground.data }, { on := 20, ground := Ground.data }, { on := 11, ground := Ground.chain }, { on := 1, ground := Ground.guard }], guard := some (1, true) }) rfl (fun K hK => ?_) AllReadyH.nil
          · skip
            go_simp
            refine (tr_Make x1 b x5 lb x6 x7 x8 Q.out (HB.out.after Q.out.below) HO.out HLB.out hcap hcap2 ML0.out).mono ?_; rintro e u2 ⟨rfl, q⟩
            replace Q := Lib.hid q
            clear q
            go_wp2_with fail
            refine hK.out _ _ (HS.out _ _ _ Q.out) (fun hHeld => ?_)
            clear hK K
            try simp only [Act.put, List.setIfInBounds_toArray, List.set_cons_zero, List.set_cons_succ]
            refine wpAnyH_take (i := 22) (oi := { dst := some 92, op := Op.binOp BinOp.eql 36 (Operand.tmp 81) (Operand.tmp 91) 36, type := 4, pos := "law.go:55", after := #[{ on := 11, ground := Ground.data }, { on := 21, ground := Ground.data }, { on := 1, ground := Ground.guard }], guard := some (1, true) }) (v := ?_) rfl (by kernel_rfl) (by kernel_rfl) (by kernel_rfl) (fun _ _ _ h => h) (Or.inl ⟨by rfl, ?_⟩) (by assumption) ?_
            rotate_left 1
            · intro w hSw; (try dsimp only at hSw); go_simp; try (with_reducible rfl)
            try simp only [Act.put, List.setIfInBounds_toArray, List.set_cons_zero, List.set_cons_succ]
            refine wpAnyH_take (i := 23) (oi := { dst := some 93, op := Op.pick (Operand.tmp 71) (Operand.tmp 92) (Operand.const (Value.bool false)), type := 4, pos := "law.go:55", after := #[{ on := 1, ground := Ground.data }, { on := 22, ground := Ground.data }], guard := none }) (v := ?_) rfl (by kernel_rfl) (by kernel_rfl) (by kernel_rfl) (fun _ _ _ h => h) (Or.inl ⟨by rfl, ?_⟩) (by assumption) ?_
            rotate_left 1
            · intro w hSw; (try dsimp only at hSw); go_simp; try (with_reducible rfl)
            try simp only [Act.put, List.setIfInBounds_toArray, List.set_cons_zero, List.set_cons_succ]
            refine wpAnyH_take (i := 24) (oi := { dst := some 9, op := Op.assign (Operand.tmp 93), type := 4, pos := "law.go:55", after := #[{ on := 23, ground := Ground.data }, { on := 21, ground := Ground.chain }, { on := 0, ground := Ground.phase }, { on := 1, ground := Ground.phase }, { on := 2, ground := Ground.phase }, { on := 3, ground := Ground.phase }, { on := 4, ground := Ground.phase }, { on := 5, ground := Ground.phase }, { on := 6, ground := Ground.phase }, { on := 7, ground := Ground.phase }, { on := 8, ground := Ground.phase }, { on := 9, ground := Ground.phase }, { on := 10, ground := Ground.phase }, { on := 11, ground := Ground.phase }, { on := 12, ground := Ground.phase }, { on := 13, ground := Ground.phase }, { on := 14, ground := Ground.phase }, { on := 15, ground := Ground.phase }, { on := 16, ground := Ground.phase }, { on := 17, ground := Ground.phase }, { on := 18, ground := Ground.phase }, { on := 19, ground := Ground.phase }, { on := 20, ground := Ground.phase }, { on := 21, ground := Ground.phase }, { on := 22, ground := Ground.phase }, { on := 23, ground := Ground.phase }], guard := none }) (v := ?_) rfl (by kernel_rfl) (by kernel_rfl) (by kernel_rfl) (fun _ _ _ h => h) (Or.inl ⟨by rfl, ?_⟩) (by assumption) ?_
            rotate_left 1
            · intro w hSw; (try dsimp only at hSw); go_simp; try (with_reducible rfl)
            try simp only [Act.put, List.setIfInBounds_toArray, List.set_cons_zero, List.set_cons_succ]
            refine wpAnyH_done (by kernel_rfl) ?_ _
            clear hHeld HS
            have d1 := Q.out.head.cell 1
            have AP := Lib.hid (fun u (h : Two w g1 g2 (pMake M x1 b x7 x8).1 (pMake M x1 b x7 x8).1 [(gx, #[.int .u8 x0, .int .i64 x1, .int .i64 x2, .int .i64 x3, .int .u64 x4, .slice x5 lb x6, .bool x7, .bool x8], 34), (gr, cur, 34)] u) => tp_Area x1 h k1)
            have AR := Lib.hid (fun u (h : Two w g1 g2 (pMake M x1 b x7 x8).1 (pMake M x1 b x7 x8).1 [(gx, #[.int .u8 x0, .int .i64 x1, .int .i64 x2, .int .i64 x3, .int .u64 x4, .slice x5 lb x6, .bool x7, .bool x8], 34), (gr, cur, 34)] u) (C : Option Addr) (x : List Int) (hC : BytS u C x) => tr_Area x1 h hC)
            have ML : Hid ((pMake M x1 b x7 x8).1.length ≤ j + 1) := Lib.hid (by have := pMake_len M x1 b x7 x8; have := hML.out; omega)
            generalize (pMake M x1 b x7 x8).1 = M2 at *
            generalize pArea M2 x1 = pa at *
            obtain ⟨ab, ao⟩ := pa
            dsimp only at AP AR
            go_wp2_with fail
            refine (AP.out _ Q.out).mono ?_
            rintro e u5 ⟨A5, c5, rfl, s5, q⟩
            replace Q := Lib.hid q
            have B5 := Lib.hid s5
            clear q s5 d1
            have d1 := Q.out.head.cell 1
            go_wp2_with fail
            refine (AR.out _ Q.out _ _ B5.out).mono ?_
            rintro e u6 ⟨A6, c6, rfl, s6, s5, q⟩
            replace Q := Lib.hid q
            clear q d1 AP AR B5
            have z5 := str_bytS s5 c5
            have z6 := str_bytS s6 c6
            clear s5 s6
            go_wp2_with fail
            go_round
            case rel => exact ⟨j + 1, _, by go_num, by omega, Lib.hid ⟨Q.out.tail, ML.out⟩⟩
            case measure => simp [intOf]; omega
      · rw [hk] at ht
        go_upto_region 11 with fail
        clear d0 d1 d3 d4 d5 d6 d7
        replace Q := Lib.hid (Q.out.after (Below.drew (Below.refl _ _)))
        have HS : Hid (∀ M' N' u', Two w g1 g2 M' N' [(gx, #[.int .u8 x0, .int .i64 x1, .int .i64 x2, .int .i64 x3, .int .u64 x4, .slice x5 lb x6, .bool x7, .bool x8], 34), (gr, cur, 34)] u' → u'.cell? ⟨gx, 3, none⟩ = some (.int .i64 x3) ∧ u'.cell? ⟨gx, 4, none⟩ = some (.int .u64 x4)) := Lib.hid fun M' N' u' h => ⟨h.head.cell 3, h.head.cell 4⟩
        refine wp_region_held_drew (S := fun w' => w'.cell? ⟨gx, 3, none⟩ = some (.int .i64 x3) ∧ w'.cell? ⟨gx, 4, none⟩ = some (.int .u64 x4)) (by kernel_rfl) (HS.out _ _ _ Q.out) (fun hHeld => ?_)
        refine wpAnyH_take (i := 0) (oi := { dst := some 50, op := Op.move (Operand.tmp 9), type := 4, pos := "law.go:65", after := #[], guard := none }) (v := ?_) rfl (by kernel_rfl) (by kernel_rfl) (by kernel_rfl) (fun _ _ _ h => h) (Or.inl ⟨by rfl, ?_⟩) (by assumption) ?_
        rotate_left 1
        · intro w hSw; (try dsimp only at hSw); go_simp; try (with_reducible rfl)
        try simp only [Act.put, List.setIfInBounds_toArray, List.set_cons_zero, List.set_cons_succ]
        refine wpAnyH_take (i := 1) (oi := { dst := some 51, op := Op.move (Operand.tmp 50), type := 4, pos := "law.go:65", after := #[{ on := 0, ground := Ground.data }], guard := none }) (v := ?_) rfl (by kernel_rfl) (by kernel_rfl) (by kernel_rfl) (fun _ _ _ h => h) (Or.inl ⟨by rfl, ?_⟩) (by assumption) ?_
        rotate_left 1
        · intro w hSw; (try dsimp only at hSw); go_simp; try (with_reducible rfl)
        try simp only [Act.put, List.setIfInBounds_toArray, List.set_cons_zero, List.set_cons_succ]
        refine wpAnyH_take (i := 2) (oi := { dst := some 52, op := Op.move (Operand.tmp 4), type := 24, pos := "law.go:65", after := #[{ on := 1, ground := Ground.guard }], guard := some (1, true) }) (v := ?_) rfl (by kernel_rfl) (by kernel_rfl) (by kernel_rfl) (fun _ _ _ h => h) (Or.inl ⟨by rfl, ?_⟩) (by assumption) ?_
        rotate_left 1
        · intro w hSw; (try dsimp only at hSw); go_simp; try (with_reducible rfl)
        try simp only [Act.put, List.setIfInBounds_toArray, List.set_cons_zero, List.set_cons_succ]
        refine wpAnyH_take (i := 3) (oi := { dst := some 53, op := Op.move (Operand.tmp 8), type := 31, pos := "law.go:65", after := #[{ on := 1, ground := Ground.guard }], guard := some (1, true) }) (v := ?_) rfl (by kernel_rfl) (by kernel_rfl) (by kernel_rfl) (fun _ _ _ h => h) (Or.inl ⟨by rfl, ?_⟩) (by assumption) ?_
        rotate_left 1
        · intro w hSw; (try dsimp only at hSw); go_simp; try (with_reducible rfl)
        try simp only [Act.put, List.setIfInBounds_toArray, List.set_cons_zero, List.set_cons_succ]
        refine wpAnyH_take (i := 4) (oi := { dst := some 54, op := Op.fieldAddr 34 (Operand.tmp 7) 3, type := 0, pos := "law.go:65", after := #[{ on := 1, ground := Ground.guard }], guard := some (1, true) }) (v := ?_) rfl (by kernel_rfl) (by kernel_rfl) (by kernel_rfl) (fun _ _ _ h => h) (Or.inl ⟨by rfl, ?_⟩) (by assumption) ?_
        rotate_left 1
        · intro w hSw; (try dsimp only at hSw); go_simp; try (with_reducible rfl)
        try simp only [Act.put, List.setIfInBounds_toArray, List.set_cons_zero, List.set_cons_succ]
        refine wpAnyH_take (i := 5) (oi := { dst := some 55, op := Op.load 3 (Operand.tmp 54), type := 3, pos := "law.go:65", after := #[{ on := 4, ground := Ground.data }, { on := 1, ground := Ground.guard }], guard := some (1, true) }) (v := ?_) rfl (by kernel_rfl) (by kernel_rfl) (by kernel_rfl) (fun _ _ _ h => h) (Or.inl ⟨by rfl, ?_⟩) (by assumption) ?_
        rotate_left 1
        · intro w hSw; (try dsimp only at hSw); go_simp; try (with_reducible rfl)
        try simp only [Act.put, List.setIfInBounds_toArray, List.set_cons_zero, List.set_cons_succ]
        refine wpAnyH_take (i := 6) (oi := { dst := some 56, op := Op.fieldAddr 34 (Operand.tmp 7) 4, type := 0, pos := "law.go:65", after := #[{ on := 1, ground := Ground.guard }], guard := some (1, true) }) (v := ?_) rfl (by kernel_rfl) (by kernel_rfl) (by kernel_rfl) (fun _ _ _ h => h) (Or.inl ⟨by rfl, ?_⟩) (by assumption) ?_
        rotate_left 1
        · intro w hSw; (try dsimp only at hSw); go_simp; try (with_reducible rfl)
        try simp only [Act.put, List.setIfInBounds_toArray, List.set_cons_zero, List.set_cons_succ]
        refine wpAnyH_take (i := 7) (oi := { dst := some 57, op := Op.load 31 (Operand.tmp 56), type := 31, pos := "law.go:65", after := #[{ on := 6, ground := Ground.data }, { on := 1, ground := Ground.guard }], guard := some (1, true) }) (v := ?_) rfl (by kernel_rfl) (by kernel_rfl) (by kernel_rfl) (fun _ _ _ h => h) (Or.inl ⟨by rfl, ?_⟩) (by assumption) ?_
        rotate_left 1
        · intro w hSw; (try dsimp only at hSw); go_simp; try (with_reducible rfl)
        try simp only [Act.put, List.setIfInBounds_toArray, List.set_cons_zero, List.set_cons_succ]
        refine wpAnyH_take (i := 9) (oi := { dst := some 59, op := Op.move (Operand.tmp 5), type := 26, pos := "law.go:65", after := #[{ on := 1, ground := Ground.guard }], guard := some (1, true) }) (v := ?_) rfl (by kernel_rfl) (by kernel_rfl) (by kernel_rfl) (fun _ _ _ h => h) (Or.inl ⟨by rfl, ?_⟩) (by assumption) ?_
        rotate_left 1
        · intro w hSw; (try dsimp only at hSw); go_simp; try (with_reducible rfl)
        try simp only [Act.put, List.setIfInBounds_toArray, List.set_cons_zero, List.set_cons_succ]
        refine wpAnyH_take (i := 10) (oi := { dst := some 60, op := Op.move (Operand.tmp 8), type := 31, pos := "law.go:65", after := #[{ on := 1, ground := Ground.guard }], guard := some (1, true) }) (v := ?_) rfl (by kernel_rfl) (by kernel_rfl) (by kernel_rfl) (fun _ _ _ h => h) (Or.inl ⟨by rfl, ?_⟩) (by assumption) ?_
        rotate_left 1
        · intro w hSw; (try dsimp only at hSw); go_simp; try (with_reducible rfl)
        try simp only [Act.put, List.setIfInBounds_toArray, List.set_cons_zero, List.set_cons_succ]
        refine wpAnyH_take (i := 11) (oi := { dst := some 61, op := Op.fieldAddr 34 (Operand.tmp 7) 3, type := 0, pos := "law.go:65", after := #[{ on := 1, ground := Ground.guard }], guard := some (1, true) }) (v := ?_) rfl (by kernel_rfl) (by kernel_rfl) (by kernel_rfl) (fun _ _ _ h => h) (Or.inl ⟨by rfl, ?_⟩) (by assumption) ?_
        rotate_left 1
        · intro w hSw; (try dsimp only at hSw); go_simp; try (with_reducible rfl)
        try simp only [Act.put, List.setIfInBounds_toArray, List.set_cons_zero, List.set_cons_succ]
        refine wpAnyH_take (i := 12) (oi := { dst := some 62, op := Op.load 3 (Operand.tmp 61), type := 3, pos := "law.go:65", after := #[{ on := 11, ground := Ground.data }, { on := 1, ground := Ground.guard }], guard := some (1, true) }) (v := ?_) rfl (by kernel_rfl) (by kernel_rfl) (by kernel_rfl) (fun _ _ _ h => h) (Or.inl ⟨by rfl, ?_⟩) (by assumption) ?_
        rotate_left 1
        · intro w hSw; (try dsimp only at hSw); go_simp; try (with_reducible rfl)
        try simp only [Act.put, List.setIfInBounds_toArray, List.set_cons_zero, List.set_cons_succ]
        refine wpAnyH_take (i := 13) (oi := { dst := some 63, op := Op.fieldAddr 34 (Operand.tmp 7) 4, type := 0, pos := "law.go:65", after := #[{ on := 1, ground := Ground.guard }], guard := some (1, true) }) (v := ?_) rfl (by kernel_rfl) (by kernel_rfl) (by kernel_rfl) (fun _ _ _ h => h) (Or.inl ⟨by rfl, ?_⟩) (by assumption) ?_
        rotate_left 1
        · intro w hSw; (try dsimp only at hSw); go_simp; try (with_reducible rfl)
        try simp only [Act.put, List.setIfInBounds_toArray, List.set_cons_zero, List.set_cons_succ]
        refine wpAnyH_take (i := 14) (oi := { dst := some 64, op := Op.load 31 (Operand.tmp 63), type := 31, pos := "law.go:65", after := #[{ on := 13, ground := Ground.data }, { on := 1, ground := Ground.guard }], guard := some (1, true) }) (v := ?_) rfl (by kernel_rfl) (by kernel_rfl) (by kernel_rfl) (fun _ _ _ h => h) (Or.inl ⟨by rfl, ?_⟩) (by assumption) ?_
        rotate_left 1
        · intro w hSw; (try dsimp only at hSw); go_simp; try (with_reducible rfl)
        try simp only [Act.put, List.setIfInBounds_toArray, List.set_cons_zero, List.set_cons_succ]
        refine wpAnyH_ready (rs := [8]) (by kernel_rfl) (by simp) ?_
        refine AllReadyH.cons (o := { dst := some 58, op := Op.call { callee := Callee.value (Operand.func 20), args := #[Operand.tmp 52, Operand.tmp 53, Operand.tmp 55, Operand.tmp 57], argTypes := #[24, 31, 3, 31] }, type := 36, pos := "law.go:65", after := #[{ on := 2, ground := Ground.data }, { on := 3, ground := Ground.data }, { on := 5, ground := Ground.data }, { on := 7, ground := Ground.data }, { on := 1, ground := Ground.chain }, { on := 1, ground := Ground.guard }], guard := some (1, true) }) rfl (fun K hK => ?_) AllReadyH.nil
        · skip
          go_simp
          refine (tp_Store at_ x3 x4 Q.out hat'.out k4).mono ?_; rintro e u1 ⟨rfl, q⟩
          replace Q := Lib.hid q
          clear q
          go_wp2_with fail
          refine hK.out _ _ (HS.out _ _ _ Q.out) (fun hHeld => ?_)
          clear hK K
          try simp only [Act.put, List.setIfInBounds_toArray, List.set_cons_zero, List.set_cons_succ]
          refine wpAnyH_ready (rs := [15]) (by kernel_rfl) (by simp) ?_
          refine AllReadyH.cons (o := { dst := some 65, op := Op.call { callee := Callee.value (Operand.func 21), args := #[Operand.tmp 59, Operand.tmp 60, Operand.tmp 62, Operand.tmp 64], argTypes := #[26, 31, 3, 31] }, type := 36, pos := "law.go:65", after := #[{ on := 9, ground := Ground.data }, { on := 10, ground := Ground.data }, { on := 12, ground := Ground.data }, { on := 14, ground := Ground.data }, { on := 8, ground := Ground.chain }, { on := 1, ground := Ground.guard }], guard := some (1, true) }) rfl (fun K hK => ?_) AllReadyH.nil
          · skip
            go_simp
            refine (tr_Store at_ x3 x4 Q.out hat'.out k4).mono ?_; rintro e u2 ⟨rfl, q⟩
            replace Q := Lib.hid q
            clear q
            go_wp2_with fail
            refine hK.out _ _ (HS.out _ _ _ Q.out) (fun hHeld => ?_)
            clear hK K
            try simp only [Act.put, List.setIfInBounds_toArray, List.set_cons_zero, List.set_cons_succ]
            refine wpAnyH_take (i := 16) (oi := { dst := some 66, op := Op.binOp BinOp.eql 36 (Operand.tmp 58) (Operand.tmp 65) 36, type := 4, pos := "law.go:65", after := #[{ on := 8, ground := Ground.data }, { on := 15, ground := Ground.data }, { on := 1, ground := Ground.guard }], guard := some (1, true) }) (v := ?_) rfl (by kernel_rfl) (by kernel_rfl) (by kernel_rfl) (fun _ _ _ h => h) (Or.inl ⟨by rfl, ?_⟩) (by assumption) ?_
            rotate_left 1
            · intro w hSw; (try dsimp only at hSw); go_simp; try (with_reducible rfl)
            try simp only [Act.put, List.setIfInBounds_toArray, List.set_cons_zero, List.set_cons_succ]
            refine wpAnyH_take (i := 17) (oi := { dst := some 67, op := Op.pick (Operand.tmp 51) (Operand.tmp 66) (Operand.const (Value.bool false)), type := 4, pos := "law.go:65", after := #[{ on := 1, ground := Ground.data }, { on := 16, ground := Ground.data }], guard := none }) (v := ?_) rfl (by kernel_rfl) (by kernel_rfl) (by kernel_rfl) (fun _ _ _ h => h) (Or.inl ⟨by rfl, ?_⟩) (by assumption) ?_
            rotate_left 1
            · intro w hSw; (try dsimp only at hSw); go_simp; try (with_reducible rfl)
            try simp only [Act.put, List.setIfInBounds_toArray, List.set_cons_zero, List.set_cons_succ]
            refine wpAnyH_take (i := 18) (oi := { dst := some 9, op := Op.assign (Operand.tmp 67), type := 4, pos := "law.go:65", after := #[{ on := 17, ground := Ground.data }, { on := 15, ground := Ground.chain }, { on := 0, ground := Ground.phase }, { on := 1, ground := Ground.phase }, { on := 2, ground := Ground.phase }, { on := 3, ground := Ground.phase }, { on := 4, ground := Ground.phase }, { on := 5, ground := Ground.phase }, { on := 6, ground := Ground.phase }, { on := 7, ground := Ground.phase }, { on := 8, ground := Ground.phase }, { on := 9, ground := Ground.phase }, { on := 10, ground := Ground.phase }, { on := 11, ground := Ground.phase }, { on := 12, ground := Ground.phase }, { on := 13, ground := Ground.phase }, { on := 14, ground := Ground.phase }, { on := 15, ground := Ground.phase }, { on := 16, ground := Ground.phase }, { on := 17, ground := Ground.phase }], guard := none }) (v := ?_) rfl (by kernel_rfl) (by kernel_rfl) (by kernel_rfl) (fun _ _ _ h => h) (Or.inl ⟨by rfl, ?_⟩) (by assumption) ?_
            rotate_left 1
            · intro w hSw; (try dsimp only at hSw); go_simp; try (with_reducible rfl)
            try simp only [Act.put, List.setIfInBounds_toArray, List.set_cons_zero, List.set_cons_succ]
            refine wpAnyH_done (by kernel_rfl) ?_ _
            clear hHeld HS
            have d1 := Q.out.head.cell 1
            have AP := Lib.hid (fun u (h : Two w g1 g2 (pStore M at_ x3 x4).1 (pStore M at_ x3 x4).1 [(gx, #[.int .u8 x0, .int .i64 x1, .int .i64 x2, .int .i64 x3, .int .u64 x4, .slice x5 lb x6, .bool x7, .bool x8], 34), (gr, cur, 34)] u) => tp_Area x1 h k1)
            have AR := Lib.hid (fun u (h : Two w g1 g2 (pStore M at_ x3 x4).1 (pStore M at_ x3 x4).1 [(gx, #[.int .u8 x0, .int .i64 x1, .int .i64 x2, .int .i64 x3, .int .u64 x4, .slice x5 lb x6, .bool x7, .bool x8], 34), (gr, cur, 34)] u) (C : Option Addr) (x : List Int) (hC : BytS u C x) => tr_Area x1 h hC)
            have ML : Hid ((pStore M at_ x3 x4).1.length ≤ j + 1) := Lib.hid (by rw [pStore_len]; have := hML.out; omega)
            generalize (pStore M at_ x3 x4).1 = M2 at *
            generalize pArea M2 x1 = pa at *
            obtain ⟨ab, ao⟩ := pa
            dsimp only at AP AR
            go_wp2_with fail
            refine (AP.out _ Q.out).mono ?_
            rintro e u5 ⟨A5, c5, rfl, s5, q⟩
            replace Q := Lib.hid q
            have B5 := Lib.hid s5
            clear q s5 d1
            have d1 := Q.out.head.cell 1
            go_wp2_with fail
            refine (AR.out _ Q.out _ _ B5.out).mono ?_
            rintro e u6 ⟨A6, c6, rfl, s6, s5, q⟩
            replace Q := Lib.hid q
            clear q d1 AP AR B5
            have z5 := str_bytS s5 c5
            have z6 := str_bytS s6 c6
            clear s5 s6
            go_wp2_with fail
            go_round
            case rel => exact ⟨j + 1, _, by go_num, by omega, Lib.hid ⟨Q.out.tail, ML.out⟩⟩
            case measure => simp [intOf]; omega
      · rw [hk] at ht
        go_upto_region 11 with fail
        clear d0 d1 d3 d4 d5 d6 d7
        replace Q := Lib.hid (Q.out.after (Below.drew (Below.refl _ _)))
        have HS : Hid (∀ M' N' u', Two w g1 g2 M' N' [(gx, #[.int .u8 x0, .int .i64 x1, .int .i64 x2, .int .i64 x3, .int .u64 x4, .slice x5 lb x6, .bool x7, .bool x8], 34), (gr, cur, 34)] u' → u'.cell? ⟨gx, 3, none⟩ = some (.int .i64 x3) ∧ u'.cell? ⟨gx, 4, none⟩ = some (.int .u64 x4)) := Lib.hid fun M' N' u' h => ⟨h.head.cell 3, h.head.cell 4⟩
        refine wp_region_held_drew (S := fun w' => w'.cell? ⟨gx, 3, none⟩ = some (.int .i64 x3) ∧ w'.cell? ⟨gx, 4, none⟩ = some (.int .u64 x4)) (by kernel_rfl) (HS.out _ _ _ Q.out) (fun hHeld => ?_)
        refine wpAnyH_take (i := 0) (oi := { dst := some 50, op := Op.move (Operand.tmp 9), type := 4, pos := "law.go:65", after := #[], guard := none }) (v := ?_) rfl (by kernel_rfl) (by kernel_rfl) (by kernel_rfl) (fun _ _ _ h => h) (Or.inl ⟨by rfl, ?_⟩) (by assumption) ?_
        rotate_left 1
        · intro w hSw; (try dsimp only at hSw); go_simp; try (with_reducible rfl)
        try simp only [Act.put, List.setIfInBounds_toArray, List.set_cons_zero, List.set_cons_succ]
        refine wpAnyH_take (i := 1) (oi := { dst := some 51, op := Op.move (Operand.tmp 50), type := 4, pos := "law.go:65", after := #[{ on := 0, ground := Ground.data }], guard := none }) (v := ?_) rfl (by kernel_rfl) (by kernel_rfl) (by kernel_rfl) (fun _ _ _ h => h) (Or.inl ⟨by rfl, ?_⟩) (by assumption) ?_
        rotate_left 1
        · intro w hSw; (try dsimp only at hSw); go_simp; try (with_reducible rfl)
        try simp only [Act.put, List.setIfInBounds_toArray, List.set_cons_zero, List.set_cons_succ]
        refine wpAnyH_take (i := 2) (oi := { dst := some 52, op := Op.move (Operand.tmp 4), type := 24, pos := "law.go:65", after := #[{ on := 1, ground := Ground.guard }], guard := some (1, true) }) (v := ?_) rfl (by kernel_rfl) (by kernel_rfl) (by kernel_rfl) (fun _ _ _ h => h) (Or.inl ⟨by rfl, ?_⟩) (by assumption) ?_
        rotate_left 1
        · intro w hSw; (try dsimp only at hSw); go_simp; try (with_reducible rfl)
        try simp only [Act.put, List.setIfInBounds_toArray, List.set_cons_zero, List.set_cons_succ]
        refine wpAnyH_take (i := 3) (oi := { dst := some 53, op := Op.move (Operand.tmp 8), type := 31, pos := "law.go:65", after := #[{ on := 1, ground := Ground.guard }], guard := some (1, true) }) (v := ?_) rfl (by kernel_rfl) (by kernel_rfl) (by kernel_rfl) (fun _ _ _ h => h) (Or.inl ⟨by rfl, ?_⟩) (by assumption) ?_
        rotate_left 1
        · intro w hSw; (try dsimp only at hSw); go_simp; try (with_reducible rfl)
        try simp only [Act.put, List.setIfInBounds_toArray, List.set_cons_zero, List.set_cons_succ]
        refine wpAnyH_take (i := 4) (oi := { dst := some 54, op := Op.fieldAddr 34 (Operand.tmp 7) 3, type := 0, pos := "law.go:65", after := #[{ on := 1, ground := Ground.guard }], guard := some (1, true) }) (v := ?_) rfl (by kernel_rfl) (by kernel_rfl) (by kernel_rfl) (fun _ _ _ h => h) (Or.inl ⟨by rfl, ?_⟩) (by assumption) ?_
        rotate_left 1
        · intro w hSw; (try dsimp only at hSw); go_simp; try (with_reducible rfl)
        try simp only [Act.put, List.setIfInBounds_toArray, List.set_cons_zero, List.set_cons_succ]
        refine wpAnyH_take (i := 5) (oi := { dst := some 55, op := Op.load 3 (Operand.tmp 54), type := 3, pos := "law.go:65", after := #[{ on := 4, ground := Ground.data }, { on := 1, ground := Ground.guard }], guard := some (1, true) }) (v := ?_) rfl (by kernel_rfl) (by kernel_rfl) (by kernel_rfl) (fun _ _ _ h => h) (Or.inl ⟨by rfl, ?_⟩) (by assumption) ?_
        rotate_left 1
        · intro w hSw; (try dsimp only at hSw); go_simp; try (with_reducible rfl)
        try simp only [Act.put, List.setIfInBounds_toArray, List.set_cons_zero, List.set_cons_succ]
        refine wpAnyH_take (i := 6) (oi := { dst := some 56, op := Op.fieldAddr 34 (Operand.tmp 7) 4, type := 0, pos := "law.go:65", after := #[{ on := 1, ground := Ground.guard }], guard := some (1, true) }) (v := ?_) rfl (by kernel_rfl) (by kernel_rfl) (by kernel_rfl) (fun _ _ _ h => h) (Or.inl ⟨by rfl, ?_⟩) (by assumption) ?_
        rotate_left 1
        · intro w hSw; (try dsimp only at hSw); go_simp; try (with_reducible rfl)
        try simp only [Act.put, List.setIfInBounds_toArray, List.set_cons_zero, List.set_cons_succ]
        refine wpAnyH_take (i := 7) (oi := { dst := some 57, op := Op.load 31 (Operand.tmp 56), type := 31, pos := "law.go:65", after := #[{ on := 6, ground := Ground.data }, { on := 1, ground := Ground.guard }], guard := some (1, true) }) (v := ?_) rfl (by kernel_rfl) (by kernel_rfl) (by kernel_rfl) (fun _ _ _ h => h) (Or.inl ⟨by rfl, ?_⟩) (by assumption) ?_
        rotate_left 1
        · intro w hSw; (try dsimp only at hSw); go_simp; try (with_reducible rfl)
        try simp only [Act.put, List.setIfInBounds_toArray, List.set_cons_zero, List.set_cons_succ]
        refine wpAnyH_take (i := 9) (oi := { dst := some 59, op := Op.move (Operand.tmp 5), type := 26, pos := "law.go:65", after := #[{ on := 1, ground := Ground.guard }], guard := some (1, true) }) (v := ?_) rfl (by kernel_rfl) (by kernel_rfl) (by kernel_rfl) (fun _ _ _ h => h) (Or.inl ⟨by rfl, ?_⟩) (by assumption) ?_
        rotate_left 1
        · intro w hSw; (try dsimp only at hSw); go_simp; try (with_reducible rfl)
        try simp only [Act.put, List.setIfInBounds_toArray, List.set_cons_zero, List.set_cons_succ]
        refine wpAnyH_take (i := 10) (oi := { dst := some 60, op := Op.move (Operand.tmp 8), type := 31, pos := "law.go:65", after := #[{ on := 1, ground := Ground.guard }], guard := some (1, true) }) (v := ?_) rfl (by kernel_rfl) (by kernel_rfl) (by kernel_rfl) (fun _ _ _ h => h) (Or.inl ⟨by rfl, ?_⟩) (by assumption) ?_
        rotate_left 1
        · intro w hSw; (try dsimp only at hSw); go_simp; try (with_reducible rfl)
        try simp only [Act.put, List.setIfInBounds_toArray, List.set_cons_zero, List.set_cons_succ]
        refine wpAnyH_take (i := 11) (oi := { dst := some 61, op := Op.fieldAddr 34 (Operand.tmp 7) 3, type := 0, pos := "law.go:65", after := #[{ on := 1, ground := Ground.guard }], guard := some (1, true) }) (v := ?_) rfl (by kernel_rfl) (by kernel_rfl) (by kernel_rfl) (fun _ _ _ h => h) (Or.inl ⟨by rfl, ?_⟩) (by assumption) ?_
        rotate_left 1
        · intro w hSw; (try dsimp only at hSw); go_simp; try (with_reducible rfl)
        try simp only [Act.put, List.setIfInBounds_toArray, List.set_cons_zero, List.set_cons_succ]
        refine wpAnyH_take (i := 12) (oi := { dst := some 62, op := Op.load 3 (Operand.tmp 61), type := 3, pos := "law.go:65", after := #[{ on := 11, ground := Ground.data }, { on := 1, ground := Ground.guard }], guard := some (1, true) }) (v := ?_) rfl (by kernel_rfl) (by kernel_rfl) (by kernel_rfl) (fun _ _ _ h => h) (Or.inl ⟨by rfl, ?_⟩) (by assumption) ?_
        rotate_left 1
        · intro w hSw; (try dsimp only at hSw); go_simp; try (with_reducible rfl)
        try simp only [Act.put, List.setIfInBounds_toArray, List.set_cons_zero, List.set_cons_succ]
        refine wpAnyH_take (i := 13) (oi := { dst := some 63, op := Op.fieldAddr 34 (Operand.tmp 7) 4, type := 0, pos := "law.go:65", after := #[{ on := 1, ground := Ground.guard }], guard := some (1, true) }) (v := ?_) rfl (by kernel_rfl) (by kernel_rfl) (by kernel_rfl) (fun _ _ _ h => h) (Or.inl ⟨by rfl, ?_⟩) (by assumption) ?_
        rotate_left 1
        · intro w hSw; (try dsimp only at hSw); go_simp; try (with_reducible rfl)
        try simp only [Act.put, List.setIfInBounds_toArray, List.set_cons_zero, List.set_cons_succ]
        refine wpAnyH_take (i := 14) (oi := { dst := some 64, op := Op.load 31 (Operand.tmp 63), type := 31, pos := "law.go:65", after := #[{ on := 13, ground := Ground.data }, { on := 1, ground := Ground.guard }], guard := some (1, true) }) (v := ?_) rfl (by kernel_rfl) (by kernel_rfl) (by kernel_rfl) (fun _ _ _ h => h) (Or.inl ⟨by rfl, ?_⟩) (by assumption) ?_
        rotate_left 1
        · intro w hSw; (try dsimp only at hSw); go_simp; try (with_reducible rfl)
        try simp only [Act.put, List.setIfInBounds_toArray, List.set_cons_zero, List.set_cons_succ]
        refine wpAnyH_ready (rs := [8]) (by kernel_rfl) (by simp) ?_
        refine AllReadyH.cons (o := { dst := some 58, op := Op.call { callee := Callee.value (Operand.func 20), args := #[Operand.tmp 52, Operand.tmp 53, Operand.tmp 55, Operand.tmp 57], argTypes := #[24, 31, 3, 31] }, type := 36, pos := "law.go:65", after := #[{ on := 2, ground := Ground.data }, { on := 3, ground := Ground.data }, { on := 5, ground := Ground.data }, { on := 7, ground := Ground.data }, { on := 1, ground := Ground.chain }, { on := 1, ground := Ground.guard }], guard := some (1, true) }) rfl (fun K hK => ?_) AllReadyH.nil
        · skip
          go_simp
          refine (tp_Store at_ x3 x4 Q.out hat'.out k4).mono ?_; rintro e u1 ⟨rfl, q⟩
          replace Q := Lib.hid q
          clear q
          go_wp2_with fail
          refine hK.out _ _ (HS.out _ _ _ Q.out) (fun hHeld => ?_)
          clear hK K
          try simp only [Act.put, List.setIfInBounds_toArray, List.set_cons_zero, List.set_cons_succ]
          refine wpAnyH_ready (rs := [15]) (by kernel_rfl) (by simp) ?_
          refine AllReadyH.cons (o := { dst := some 65, op := Op.call { callee := Callee.value (Operand.func 21), args := #[Operand.tmp 59, Operand.tmp 60, Operand.tmp 62, Operand.tmp 64], argTypes := #[26, 31, 3, 31] }, type := 36, pos := "law.go:65", after := #[{ on := 9, ground := Ground.data }, { on := 10, ground := Ground.data }, { on := 12, ground := Ground.data }, { on := 14, ground := Ground.data }, { on := 8, ground := Ground.chain }, { on := 1, ground := Ground.guard }], guard := some (1, true) }) rfl (fun K hK => ?_) AllReadyH.nil
          · skip
            go_simp
            refine (tr_Store at_ x3 x4 Q.out hat'.out k4).mono ?_; rintro e u2 ⟨rfl, q⟩
            replace Q := Lib.hid q
            clear q
            go_wp2_with fail
            refine hK.out _ _ (HS.out _ _ _ Q.out) (fun hHeld => ?_)
            clear hK K
            try simp only [Act.put, List.setIfInBounds_toArray, List.set_cons_zero, List.set_cons_succ]
            refine wpAnyH_take (i := 16) (oi := { dst := some 66, op := Op.binOp BinOp.eql 36 (Operand.tmp 58) (Operand.tmp 65) 36, type := 4, pos := "law.go:65", after := #[{ on := 8, ground := Ground.data }, { on := 15, ground := Ground.data }, { on := 1, ground := Ground.guard }], guard := some (1, true) }) (v := ?_) rfl (by kernel_rfl) (by kernel_rfl) (by kernel_rfl) (fun _ _ _ h => h) (Or.inl ⟨by rfl, ?_⟩) (by assumption) ?_
            rotate_left 1
            · intro w hSw; (try dsimp only at hSw); go_simp; try (with_reducible rfl)
            try simp only [Act.put, List.setIfInBounds_toArray, List.set_cons_zero, List.set_cons_succ]
            refine wpAnyH_take (i := 17) (oi := { dst := some 67, op := Op.pick (Operand.tmp 51) (Operand.tmp 66) (Operand.const (Value.bool false)), type := 4, pos := "law.go:65", after := #[{ on := 1, ground := Ground.data }, { on := 16, ground := Ground.data }], guard := none }) (v := ?_) rfl (by kernel_rfl) (by kernel_rfl) (by kernel_rfl) (fun _ _ _ h => h) (Or.inl ⟨by rfl, ?_⟩) (by assumption) ?_
            rotate_left 1
            · intro w hSw; (try dsimp only at hSw); go_simp; try (with_reducible rfl)
            try simp only [Act.put, List.setIfInBounds_toArray, List.set_cons_zero, List.set_cons_succ]
            refine wpAnyH_take (i := 18) (oi := { dst := some 9, op := Op.assign (Operand.tmp 67), type := 4, pos := "law.go:65", after := #[{ on := 17, ground := Ground.data }, { on := 15, ground := Ground.chain }, { on := 0, ground := Ground.phase }, { on := 1, ground := Ground.phase }, { on := 2, ground := Ground.phase }, { on := 3, ground := Ground.phase }, { on := 4, ground := Ground.phase }, { on := 5, ground := Ground.phase }, { on := 6, ground := Ground.phase }, { on := 7, ground := Ground.phase }, { on := 8, ground := Ground.phase }, { on := 9, ground := Ground.phase }, { on := 10, ground := Ground.phase }, { on := 11, ground := Ground.phase }, { on := 12, ground := Ground.phase }, { on := 13, ground := Ground.phase }, { on := 14, ground := Ground.phase }, { on := 15, ground := Ground.phase }, { on := 16, ground := Ground.phase }, { on := 17, ground := Ground.phase }], guard := none }) (v := ?_) rfl (by kernel_rfl) (by kernel_rfl) (by kernel_rfl) (fun _ _ _ h => h) (Or.inl ⟨by rfl, ?_⟩) (by assumption) ?_
            rotate_left 1
            · intro w hSw; (try dsimp only at hSw); go_simp; try (with_reducible rfl)
            try simp only [Act.put, List.setIfInBounds_toArray, List.set_cons_zero, List.set_cons_succ]
            refine wpAnyH_done (by kernel_rfl) ?_ _
            clear hHeld HS
            have d1 := Q.out.head.cell 1
            have AP := Lib.hid (fun u (h : Two w g1 g2 (pStore M at_ x3 x4).1 (pStore M at_ x3 x4).1 [(gx, #[.int .u8 x0, .int .i64 x1, .int .i64 x2, .int .i64 x3, .int .u64 x4, .slice x5 lb x6, .bool x7, .bool x8], 34), (gr, cur, 34)] u) => tp_Area x1 h k1)
            have AR := Lib.hid (fun u (h : Two w g1 g2 (pStore M at_ x3 x4).1 (pStore M at_ x3 x4).1 [(gx, #[.int .u8 x0, .int .i64 x1, .int .i64 x2, .int .i64 x3, .int .u64 x4, .slice x5 lb x6, .bool x7, .bool x8], 34), (gr, cur, 34)] u) (C : Option Addr) (x : List Int) (hC : BytS u C x) => tr_Area x1 h hC)
            have ML : Hid ((pStore M at_ x3 x4).1.length ≤ j + 1) := Lib.hid (by rw [pStore_len]; have := hML.out; omega)
            generalize (pStore M at_ x3 x4).1 = M2 at *
            generalize pArea M2 x1 = pa at *
            obtain ⟨ab, ao⟩ := pa
            dsimp only at AP AR
            go_wp2_with fail
            refine (AP.out _ Q.out).mono ?_
            rintro e u5 ⟨A5, c5, rfl, s5, q⟩
            replace Q := Lib.hid q
            have B5 := Lib.hid s5
            clear q s5 d1
            have d1 := Q.out.head.cell 1
            go_wp2_with fail
            refine (AR.out _ Q.out _ _ B5.out).mono ?_
            rintro e u6 ⟨A6, c6, rfl, s6, s5, q⟩
            replace Q := Lib.hid q
            clear q d1 AP AR B5
            have z5 := str_bytS s5 c5
            have z6 := str_bytS s6 c6
            clear s5 s6
            go_wp2_with fail
            go_round
            case rel => exact ⟨j + 1, _, by go_num, by omega, Lib.hid ⟨Q.out.tail, ML.out⟩⟩
            case measure => simp [intOf]; omega
      · rw [hk] at ht
        have LP := Lib.hid (fun u (h : Two w g1 g2 M M [(gx, #[.int .u8 x0, .int .i64 x1, .int .i64 x2, .int .i64 x3, .int .u64 x4, .slice x5 lb x6, .bool x7, .bool x8], 34), (gr, cur, 34)] u) => tp_Load at_ x3 h hat'.out)
        have LR := Lib.hid (fun u (h : Two w g1 g2 M M [(gx, #[.int .u8 x0, .int .i64 x1, .int .i64 x2, .int .i64 x3, .int .u64 x4, .slice x5 lb x6, .bool x7, .bool x8], 34), (gr, cur, 34)] u) => tr_Load at_ x3 h hat'.out)
        generalize pLoad M at_ x3 = pl at *
        obtain ⟨lv, le⟩ := pl
        dsimp only at LP LR
        go_wp2_with fail
        refine (LP.out _ Q.out).mono ?_
        rintro e u3 ⟨rfl, q⟩
        replace Q := Lib.hid q
        clear q
        clear d0 d1 d3 d4 d5 d6 d7
        have d3 := Q.out.head.cell 3
        go_wp2_with fail
        refine (LR.out _ Q.out).mono ?_
        rintro e u4 ⟨rfl, q⟩
        replace Q := Lib.hid q
        clear q d3 LP LR
        have d1 := Q.out.head.cell 1
        have AP := Lib.hid (fun u (h : Two w g1 g2 M M [(gx, #[.int .u8 x0, .int .i64 x1, .int .i64 x2, .int .i64 x3, .int .u64 x4, .slice x5 lb x6, .bool x7, .bool x8], 34), (gr, cur, 34)] u) => tp_Area x1 h k1)
        have AR := Lib.hid (fun u (h : Two w g1 g2 M M [(gx, #[.int .u8 x0, .int .i64 x1, .int .i64 x2, .int .i64 x3, .int .u64 x4, .slice x5 lb x6, .bool x7, .bool x8], 34), (gr, cur, 34)] u) (C : Option Addr) (x : List Int) (hC : BytS u C x) => tr_Area x1 h hC)
        have ML : Hid (M.length ≤ j + 1) := Lib.hid (by have := hML.out; omega)
        skip
        generalize pArea M x1 = pa at *
        obtain ⟨ab, ao⟩ := pa
        dsimp only at AP AR
        go_wp2_with fail
        refine (AP.out _ Q.out).mono ?_
        rintro e u5 ⟨A5, c5, rfl, s5, q⟩
        replace Q := Lib.hid q
        have B5 := Lib.hid s5
        clear q s5 d1
        have d1 := Q.out.head.cell 1
        go_wp2_with fail
        refine (AR.out _ Q.out _ _ B5.out).mono ?_
        rintro e u6 ⟨A6, c6, rfl, s6, s5, q⟩
        replace Q := Lib.hid q
        clear q d1 AP AR B5
        have z5 := str_bytS s5 c5
        have z6 := str_bytS s6 c6
        clear s5 s6
        go_wp2_with fail
        go_round
        case rel => exact ⟨j + 1, _, by go_num, by omega, Lib.hid ⟨Q.out.tail, ML.out⟩⟩
        case measure => simp [intOf]; omega
      · rw [hk] at ht
        have LP := Lib.hid (fun u (h : Two w g1 g2 M M [(gx, #[.int .u8 x0, .int .i64 x1, .int .i64 x2, .int .i64 x3, .int .u64 x4, .slice x5 lb x6, .bool x7, .bool x8], 34), (gr, cur, 34)] u) => tp_Read at_ x3 h hat'.out)
        have LR := Lib.hid (fun u (h : Two w g1 g2 M M [(gx, #[.int .u8 x0, .int .i64 x1, .int .i64 x2, .int .i64 x3, .int .u64 x4, .slice x5 lb x6, .bool x7, .bool x8], 34), (gr, cur, 34)] u) (C : Option Addr) (x : List Int) (hC : BytS u C x) => tr_Read at_ x3 h hat'.out hC)
        generalize pRead M at_ x3 = pl at *
        obtain ⟨lv, le⟩ := pl
        dsimp only at LP LR
        go_wp2_with fail
        refine (LP.out _ Q.out).mono ?_
        rintro e u3 ⟨A3, c3, rfl, s3, q⟩
        replace Q := Lib.hid q
        have B3 := Lib.hid s3
        clear q s3
        clear d0 d1 d3 d4 d5 d6 d7
        have d3 := Q.out.head.cell 3
        go_wp2_with fail
        refine (LR.out _ Q.out _ _ B3.out).mono ?_
        rintro e u4 ⟨A4, c4, rfl, s4, s3, q⟩
        replace Q := Lib.hid q
        clear q d3 LP LR B3
        have z3 := str_bytS s3 c3
        have z4 := str_bytS s4 c4
        clear s3 s4
        have d1 := Q.out.head.cell 1
        have AP := Lib.hid (fun u (h : Two w g1 g2 M M [(gx, #[.int .u8 x0, .int .i64 x1, .int .i64 x2, .int .i64 x3, .int .u64 x4, .slice x5 lb x6, .bool x7, .bool x8], 34), (gr, cur, 34)] u) => tp_Area x1 h k1)
        have AR := Lib.hid (fun u (h : Two w g1 g2 M M [(gx, #[.int .u8 x0, .int .i64 x1, .int .i64 x2, .int .i64 x3, .int .u64 x4, .slice x5 lb x6, .bool x7, .bool x8], 34), (gr, cur, 34)] u) (C : Option Addr) (x : List Int) (hC : BytS u C x) => tr_Area x1 h hC)
        have ML : Hid (M.length ≤ j + 1) := Lib.hid (by have := hML.out; omega)
        skip
        generalize pArea M x1 = pa at *
        obtain ⟨ab, ao⟩ := pa
        dsimp only at AP AR
        go_wp2_with fail
        refine (AP.out _ Q.out).mono ?_
        rintro e u5 ⟨A5, c5, rfl, s5, q⟩
        replace Q := Lib.hid q
        have B5 := Lib.hid s5
        clear q s5 d1
        have d1 := Q.out.head.cell 1
        go_wp2_with fail
        refine (AR.out _ Q.out _ _ B5.out).mono ?_
        rintro e u6 ⟨A6, c6, rfl, s6, s5, q⟩
        replace Q := Lib.hid q
        clear q d1 AP AR B5
        have z5 := str_bytS s5 c5
        have z6 := str_bytS s6 c6
        clear s5 s6
        go_wp2_with fail
        go_round
        case rel => exact ⟨j + 1, _, by go_num, by omega, Lib.hid ⟨Q.out.tail, ML.out⟩⟩
        case measure => simp [intOf]; omega
    · go_wp2_with fail
      go_ret
      exact ⟨rfl, QM.out.1.below⟩

end Go.Proofs.Ytegmhbflgceecaa
