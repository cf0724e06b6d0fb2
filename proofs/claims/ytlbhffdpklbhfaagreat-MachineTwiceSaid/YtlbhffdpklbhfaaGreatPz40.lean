/-
  Texts, one behind the other: Tab14, BytRow.
  Conditions: those that each theorem states.
-/
import Derived.LoopTactic
import Derived.Deep.RegionHeld
import Derived.Deep.RegionHeld3
import Derived.Test.YtlbhffdpklbhfaaGreatPz39
import Derived.Laws.OwnMore
import Derived.Laws.MakeOwn
import Derived.Deep.AppendLies
import Derived.Maps.AppendAt
import Derived.OwnWalk
import Derived.Test.YtlbhffdpklbhfaaGreatPz14
import Derived.Test.YtlbhffdpklbhfaaGreatPz15
import Derived.Test.YtlbhffdpklbhfaaGreatPz1
import Derived.Test.YtlbhffdpklbhfaaGreatPz2
namespace Go.Proofs.YtlbhffdpklbhfaaGreat
open Go.RowKit
set_option maxRecDepth 100000
set_option linter.unusedVariables false
set_option linter.unusedSimpArgs false
set_option maxHeartbeats 4000000 in
theorem q9_New_no (w : World) (gm : Nat) (M : PM) (G : Nat → Prop) (l : List Df) (A : Option Addr) (n c : Nat) (h : RepP w gm M G) (hl : DefS w A l) (hn : l.length = n) (hc : n ≤ c) (hcm : c ≤ maxLen) (hr : tRight l = false) :
    Calls Tryz.prog 22 #[.pointer (some ⟨gm, 0, none⟩), .slice A n c] w (NewQ gm G (tNew M l) w) := by
  have R := Lib.hid (q9_Right w A c l hl (by omega) hcm)
  rw [hn, hr] at R
  have FIN : Hid (∀ u, Below w.heap.size w u → NewQ gm G (tNew M l) w (.returned (.tuple #[.pointer none, .int .i64 1])) u) := Lib.hid fun u b => by
    have e : tNew M l = (M, none) := by unfold tNew; rw [hr, if_neg Bool.false_ne_true]
    rw [e]
    exact ⟨G, Turn.of_below b, fun x hx => .inl hx, rfl, h.after b⟩
  clear h hl hn hr
  go_enter Tryz.func22, Tryz.ntmps22
  go_wp2_with fail
  refine (R.out).mono ?_
  rintro e w1 ⟨rfl, b1⟩
  have V := Lib.hid b1
  clear b1 R
  go_wp2_with fail
  go_ret2
  exact FIN.out _ V.out
structure NewV (w w1 : World) (gt gm gl n ρ : Nat) (G F : Nat → Prop) (j : Nat) (L : List TR) (M : PM) (d : Df) (u : World) (F' G' : Nat → Prop) : Prop where
  raw : RawN w1 gt gm (.slice (some ⟨gl, 0, none⟩) n n) L M F G u F' G'
  var : Blk ρ #[.bool d.hash, .int .i64 d.key, .int .i64 d.val, .int .i64 d.max] 74 u
  out : ¬ F' ρ ∧ ¬ G' ρ
theorem NewV.cells {w w1 u : World} {gt gm gl n ρ j : Nat} {G F F' G' : Nat → Prop} {L : List TR} {M : PM} {d : Df} (h : NewV w w1 gt gm gl n ρ G F j L M d u F' G') :
    u.cell? ⟨gt, 1, none⟩ = some (.slice (some ⟨gl, 0, none⟩) n n) ∧ u.cell? ⟨ρ, 0, none⟩ = some (.bool d.hash) ∧ u.cell? ⟨ρ, 1, none⟩ = some (.int .i64 d.key) ∧ u.cell? ⟨ρ, 2, none⟩ = some (.int .i64 d.val) ∧ u.cell? ⟨ρ, 3, none⟩ = some (.int .i64 d.max) :=
  ⟨h.raw.rep.maps.cells.2, Blk.cell h.var 0, Blk.cell h.var 1, Blk.cell h.var 2, Blk.cell h.var 3⟩
theorem NewV.row {w w1 u : World} {gt gm gl n ρ j : Nat} {G F F' G' : Nat → Prop} {L : List TR} {M : PM} {d : Df} (h : NewV w w1 gt gm gl n ρ G F j L M d u F' G') (hj : j < L.length) (hz : trAt L j = zR) (ho : Obj) :
    ((u.alloc ho).cell? ⟨gl, j * 6, none⟩ = some (.bool false) ∧ (u.alloc ho).cell? ⟨gl, j * 6 + 1, none⟩ = some (.int .i64 0) ∧ (u.alloc ho).cell? ⟨gl, j * 6 + 2, none⟩ = some (.int .i64 0) ∧ (u.alloc ho).cell? ⟨gl, j * 6 + 3, none⟩ = some (.int .i64 0) ∧ (u.alloc ho).cell? ⟨gl, j * 6 + 4, none⟩ = some (.map none) ∧ (u.alloc ho).cell? ⟨gl, j * 6 + 5, none⟩ = some (.int .i64 0)) ∧
    ((u.alloc ho).frozen? ⟨gl, j * 6, none⟩ = false ∧ (u.alloc ho).frozen? ⟨gl, j * 6 + 1, none⟩ = false ∧ (u.alloc ho).frozen? ⟨gl, j * 6 + 2, none⟩ = false ∧ (u.alloc ho).frozen? ⟨gl, j * 6 + 3, none⟩ = false ∧ (u.alloc ho).frozen? ⟨gl, j * 6 + 4, none⟩ = false ∧ (u.alloc ho).frozen? ⟨gl, j * 6 + 5, none⟩ = false) := by
  have hm := h.raw.rep.maps.after (below_alloc (Below.refl _ _) ho)
  obtain ⟨gl', c', hv, -, -, -, e0, e1, e2, e3, e4, e5⟩ := hm.at_ hj
  cases hv
  rw [hz] at e0 e1 e2 e3 e4 e5
  have hrow := hm.row
  exact ⟨⟨e0, e1, e2, e3, e4, e5⟩, hrow.frozenAt _, hrow.frozenAt _, hrow.frozenAt _, hrow.frozenAt _, hrow.frozenAt _, hrow.frozenAt _⟩
theorem NewV.after {w w1 u u' : World} {gt gm gl n ρ j : Nat} {G F F' G' : Nat → Prop} {L : List TR} {M : PM} {d : Df} (h : NewV w w1 gt gm gl n ρ G F j L M d u F' G') (b : Below u.heap.size u u') : NewV w w1 gt gm gl n ρ G F j L M d u' F' G' := ⟨h.raw.after b, h.var.after b, h.out⟩
theorem NewV.put {w w1 u : World} {gt gm gl n ρ j : Nat} {G F F' G' : Nat → Prop} {L : List TR} {M : PM} {d : Df} (h : NewV w w1 gt gm gl n ρ G F j L M d u F' G') (hn : L.length = n) (hj : j < L.length) (hz : trAt L j = zR) :
    ∃ F2, NewV w w1 gt gm gl n ρ G F j (L.set j (numR d 0 u.heap.size)) M d (sixAt (u.alloc (.map #[] 0)) gl (j * 6) (.bool d.hash) (.int .i64 d.key) (.int .i64 d.val) (.int .i64 d.max) (.map (some u.heap.size)) (.int .i64 0)) F2 G' := by
  subst hn
  obtain ⟨F2, q⟩ := new_put (d := d) h.raw hj hz rfl
  have hgl : F' gl := h.raw.rep.maps.foot1 rfl
  have hne : ρ ≠ gl := fun e => h.out.1 (by rw [e]; exact hgl)
  have hv : Blk ρ #[.bool d.hash, .int .i64 d.key, .int .i64 d.val, .int .i64 d.max] 74 (sixAt (u.alloc (.map #[] 0)) gl (j * 6) (.bool d.hash) (.int .i64 d.key) (.int .i64 d.val) (.int .i64 d.max) (.map (some u.heap.size)) (.int .i64 0)) :=
    Blk.same (h.var.after (below_alloc (Below.refl _ _) _)) (sixAt_heap _ _ _ _ _ _ _ _ _ hne)
  refine ⟨F2, q, hv, fun c => ?_, h.out.2⟩
  obtain ⟨p, hp⟩ := (q.rep.maps.foot ρ).mp c
  have hb := h.var.lt
  rcases qBlk_cases hp with ⟨_, e⟩ | ⟨_, e⟩ | ⟨k, hk, _, e⟩
  · exact h.out.1 (by rw [e]; exact h.raw.rep.maps.foot0)
  · cases e; exact hne rfl
  · rw [trAt_set hj] at e
    by_cases ek : k = j
    · rw [if_pos ek] at e
      have e2 : u.heap.size = ρ := Option.some.inj e
      omega
    · rw [if_neg ek] at e; exact h.out.1 (h.raw.rep.maps.footK e)
theorem new_start {w w0 : World} {gm n : Nat} {M : PM} {G : Nat → Prop} {l : List Df} (h : RepP w gm M G) (b : Below w.heap.size w w0) (hn : n ≤ 1000) :
    RawN ((w0.alloc (.cells (trC (List.replicate n zR)).toArray 117)).alloc (.cells #[.pointer (some ⟨gm, 0, none⟩), .slice (some ⟨w0.heap.size, 0, none⟩) n n] 114)) (w0.heap.size + 1) gm (.slice (some ⟨w0.heap.size, 0, none⟩) n n) (List.replicate n zR) M (fun x => x = w0.heap.size + 1 ∨ x = w0.heap.size) G ((w0.alloc (.cells (trC (List.replicate n zR)).toArray 117)).alloc (.cells #[.pointer (some ⟨gm, 0, none⟩), .slice (some ⟨w0.heap.size, 0, none⟩) n n] 114)) (fun x => x = w0.heap.size + 1 ∨ x = w0.heap.size) G ∧
    Below w.heap.size w ((w0.alloc (.cells (trC (List.replicate n zR)).toArray 117)).alloc (.cells #[.pointer (some ⟨gm, 0, none⟩), .slice (some ⟨w0.heap.size, 0, none⟩) n n] 114)) ∧ w.heap.size ≤ w0.heap.size := by
  have hs := b.size
  have b1 := below_alloc b (.cells (trC (List.replicate n zR)).toArray 117)
  have b2 := below_alloc b1 (.cells #[.pointer (some ⟨gm, 0, none⟩), .slice (some ⟨w0.heap.size, 0, none⟩) n n] 114)
  have hz1 : (w0.alloc (.cells (trC (List.replicate n zR)).toArray 117)).heap.size = w0.heap.size + 1 := by simp
  have hat : ∀ k, k < (List.replicate n zR).length → trAt (List.replicate n zR) k = zR := fun k hk => by
    unfold trAt
    rw [List.length_replicate] at hk
    rw [List.getD_eq_getElem?_getD, List.getElem?_replicate, if_pos hk]
    rfl
  have hq : ∀ p x, qBlk (w0.heap.size + 1) (.slice (some ⟨w0.heap.size, 0, none⟩) n n) (List.replicate n zR) p = some x → (p = 0 ∧ x = w0.heap.size + 1) ∨ (p = 1 ∧ x = w0.heap.size) := fun p x hx => by
    rcases qBlk_cases hx with ⟨a1, a2⟩ | ⟨a1, a2⟩ | ⟨k, hk, _, e⟩
    · exact .inl ⟨a1, a2⟩
    · cases a2; exact .inr ⟨a1, rfl⟩
    · rw [hat k hk] at e; cases e
  have hblk0 : Blk w0.heap.size (trC (List.replicate n zR)).toArray 117 (w0.alloc (.cells (trC (List.replicate n zR)).toArray 117)) := Blk.new w0 _ _ rfl
  have hlt : (trC (List.replicate n zR)).length = n * 6 := by rw [trC_len]; simp
  refine ⟨⟨⟨⟨Blk.new _ _ _ hz1.symm, ?_, fun k hk => .inl ?_, fun p q x hp hq' => ?_, fun x => ⟨fun hx => ?_, fun ⟨p, hp⟩ => ?_⟩⟩, h.after b2, fun x hx hG => ?_⟩, Turn.refl _ _, fun x hx => .inl hx, fun x hx => .inl hx⟩, b2, hs⟩
  · refine own_after (w := w0.alloc (.cells (trC (List.replicate n zR)).toArray 117)) ?_ (below_alloc (Below.refl _ _) _)
    rw [List.length_replicate]
    exact ⟨by rw [hlt], .inr ⟨w0.heap.size, n, _, rfl, Nat.zero_le _, hblk0, Nat.le_refl _, by unfold maxLen; omega, by simp [hlt], by rw [List.take_of_length_le]; simp [hlt]⟩⟩
  · rw [hat k hk]; exact ⟨rfl, rfl⟩
  · rcases hq p x hp with ⟨a, a'⟩ | ⟨a, a'⟩ <;> rcases hq q x hq' with ⟨c, c'⟩ | ⟨c, c'⟩ <;> omega
  · rcases hx with rfl | rfl
    · exact ⟨0, rfl⟩
    · exact ⟨1, rfl⟩
  · rcases hq p x hp with ⟨_, a'⟩ | ⟨_, a'⟩
    · exact .inl a'
    · exact .inr a'
  · have := h.lt hG
    rcases hx with rfl | rfl <;> omega
set_option maxHeartbeats 8000000 in
theorem q9_New_yes (w : World) (gm : Nat) (M : PM) (G : Nat → Prop) (l : List Df) (A : Option Addr) (n c : Nat) (h : RepP w gm M G) (hl : ∀ u, Turn G w u → DefS u A l) (hn : l.length = n) (hc : n ≤ c) (hcm : c ≤ maxLen) (hr : tRight l = true) (hM : M.length ≤ 40000) :
    Calls Tryz.prog 22 #[.pointer (some ⟨gm, 0, none⟩), .slice A n c] w (NewQ gm G (tNew M l) w) := by
  have R := Lib.hid (q9_Right w A c l (hl w (Turn.refl _ _)) (by omega) hcm)
  rw [hn, hr] at R
  have hn8 : n ≤ 8 := by
    unfold tRight at hr
    simp only [Bool.and_eq_true, decide_eq_true_eq] at hr
    omega
  have HG : Hid (∀ j, j < n → (dAt l j).good = true) := Lib.hid fun j hj => by
    unfold tRight at hr
    simp only [Bool.and_eq_true, List.all_eq_true] at hr
    refine hr.1 _ ?_
    unfold dAt
    rw [List.getD_eq_getElem?_getD, List.getElem?_eq_getElem (by omega)]
    exact List.getElem_mem _
  have HH := Lib.hid h
  have HL := Lib.hid hl
  have HN := Lib.hid hn
  have HR := Lib.hid hr
  clear h hl hn hr
  unfold maxLen at hcm
  go_enter Tryz.func22, Tryz.ntmps22
  go_wp2_with fail
  refine (R.out).mono ?_
  rintro e w0 ⟨rfl, b0⟩
  have V := Lib.hid b0
  have hmk := make_keyed w0 n (by omega)
  clear b0 R
  go_wp2_with fail
  have ST := new_start (l := l) HH.out V.out (n := n) (by omega)
  have I0 : Hid (NewI l M 0 (List.replicate n zR) M) := Lib.hid (by rw [← HN.out]; exact newI_start l M)
  generalize (w0.alloc (.cells (trC (List.replicate n zR)).toArray 117)).alloc (.cells #[.pointer (some ⟨gm, 0, none⟩), .slice (some ⟨w0.heap.size, 0, none⟩) n n] 114) = w1 at *
  generalize hgt : w0.heap.size + 1 = gt at *
  generalize hgl : w0.heap.size = gl at *
  have Q0 := Lib.hid ST.1
  have B1 := Lib.hid ST.2.1
  obtain ⟨F, hFF⟩ : ∃ F : Nat → Prop, F = fun x => x = gt ∨ x = gl := ⟨_, rfl⟩
  rw [← hFF] at Q0
  have HF : Hid (∀ x, F x → w.heap.size ≤ x) := Lib.hid fun x hx => by rw [hFF] at hx; have := ST.2.2; rcases hx with rfl | rfl <;> omega
  clear ST hgt hgl V hmk hFF
  have HD : Hid (∀ u L M' F' G', RawN w1 gt gm (.slice (some ⟨gl, 0, none⟩) n n) L M' F G u F' G' → Turn G w u ∧ DefS u A l) := Lib.hid fun u L M' F' G' q => by
    have t : Turn G w u := (Turn.of_below B1.out : Turn G w w1).trans q.turn (fun x hx => by
      rcases hx with c | c
      · exact .inr (HF.out x c)
      · exact .inl c)
    exact ⟨t, HL.out u t⟩
  go_loopw [24] (fun iv wr => ∃ (j : Nat) (L : List TR) (M' : PM) (F' G' : Nat → Prop), iv = .int .i64 j ∧ j ≤ n ∧ Hid (NewI l M j L M') ∧ Hid (RawN w1 gt gm (.slice (some ⟨gl, 0, none⟩) n n) L M' F G wr F' G')) (fun iv wr => n - (intOf iv).toNat)
  case atStart => exact ⟨0, _, M, F, G, rfl, by omega, I0, Q0⟩
  case round =>
    obtain ⟨j, L, M', F', G', rfl, hj, I, Q⟩ := hrel
    have j0 : (0 : Int) ≤ j := by omega
    clear Q0 I0
    by_cases hlt : (j : Int) < n
    · have hjn : j < n := by omega
      have hgd := HG.out j hjn
      obtain ⟨ga, oa, rfl, hga, hca⟩ := (HD.out _ _ _ _ _ Q.out).2 (by rw [HN.out]; omega)
      obtain ⟨c0, c1, c2, c3⟩ := hca j (by rw [HN.out]; exact hjn)
      have hLn : L.length = n := by rw [I.out.len, HN.out]
      have hjL : j < L.length := by omega
      have hzz : trAt L j = zR := I.out.rest j (Nat.le_refl _) hjL
      have BA := below_alloc (Below.refl wr.heap.size wr) (.cells #[.bool (dAt l j).hash, .int .i64 (dAt l j).key, .int .i64 (dAt l j).val, .int .i64 (dAt l j).max] 74)
      have Q4 : Hid (NewV w w1 gt gm gl n wr.heap.size G F j L M' (dAt l j) (wr.alloc (.cells #[.bool (dAt l j).hash, .int .i64 (dAt l j).key, .int .i64 (dAt l j).val, .int .i64 (dAt l j).max] 74)).drew F' G') := Lib.hid (by
        refine NewV.after ⟨Q.out.after BA, Blk.new wr _ _ rfl, fun c => ?_, fun c => ?_⟩ (Below.drew (Below.refl _ _))
        · have := Q.out.rep.maps.lt c; omega
        · have := Q.out.rep.mem.lt c; omega)
      have S4 := Lib.hid Q4.out.cells
      have NXT := Lib.hid fun (M2 : PM) (mb : Nat) hs => I.out.next (M2 := M2) (mb := mb) (by rw [HN.out]; exact hjn) hgd hs
      have STP : Hid (∀ M2, (dAt l j).hash = false → tSlots M' j (dAt l j).val.toNat 0 (dAt l j).max.toNat = (M2, false) → tNew M l = (M2, none)) := Lib.hid fun M2 hh hs => by
        have h1 := new_stop (l := l) (j := j) (M := M') (T := trM (L.take j)) (d := dAt l j) (by rw [HN.out]; exact hjn) rfl hh (M2 := M2) (by unfold nums; rw [hh, if_neg Bool.false_ne_true]; exact hs)
        unfold tNew
        rw [HR.out, if_pos rfl, ← I.out.all]
        exact h1
      have NU := Lib.hid fun (u : World) (F2 G2 : Nat → Prop) (mb : Nat) (hh : (dAt l j).hash = false) (q : RawD u gt gm (.slice (some ⟨gl, 0, none⟩) n n) (L.set j (numR (dAt l j) 0 mb)) M' F2 G2) =>
        q9_number u gt gm (.slice (some ⟨gl, 0, none⟩) n n) (L.set j (numR (dAt l j) 0 mb)) M' F2 G2 j mb (dAt l j) q (by rw [List.length_set]; exact hjL) (by rw [List.length_set]; omega) (by rw [trAt_set hjL, if_pos rfl]) hgd hh (by have := I.out.few; omega)
      have PUT := Lib.hid fun u (q : NewV w w1 gt gm gl n wr.heap.size G F j L M' (dAt l j) u F' G') => q.put hLn hjL hzz
      have ROW := Lib.hid fun u (q : NewV w w1 gt gm gl n wr.heap.size G F j L M' (dAt l j) u F' G') => q.row hjL hzz (.map #[] 0)
      have NU0 : Hid ((dAt l j).hash = true → nums (dAt l j) = 0) := Lib.hid (nums_at hgd).2.1
      have NU1 : Hid ((dAt l j).hash = false → nums (dAt l j) = (dAt l j).max.toNat) := Lib.hid fun hh => by unfold nums; rw [hh, if_neg Bool.false_ne_true]
      have HJ := Lib.hid hjn
      clear hca I HN BA hga hLn hjL hzz hgd HH HL HG hM hc hcm
      generalize dAt l j = d at *
      obtain ⟨dh, dk, dv, dm⟩ := d
      dsimp only at *
      go_upto_region 7 with fail
      clear c0 c1 c2 c3
      generalize hρ : wr.heap.size = ρ at *
      refine wp_region_held_drew (S := fun w' => w'.cell? ⟨gt, 1, none⟩ = some (.slice (some ⟨gl, 0, none⟩) n n) ∧ w'.cell? ⟨ρ, 0, none⟩ = some (.bool dh) ∧ w'.cell? ⟨ρ, 1, none⟩ = some (.int .i64 dk) ∧ w'.cell? ⟨ρ, 2, none⟩ = some (.int .i64 dv) ∧ w'.cell? ⟨ρ, 3, none⟩ = some (.int .i64 dm)) (by kernel_rfl) S4.out (fun hHeld => ?_)
      generalize (wr.alloc (.cells #[.bool dh, .int .i64 dk, .int .i64 dv, .int .i64 dm] 74)).drew = wd at *
      have S5 := Lib.hid (Q4.out.after (below_alloc (Below.refl _ _) (.map #[] 0))).cells
      have RW := Lib.hid (ROW.out _ Q4.out)
      obtain ⟨F2, q5⟩ := PUT.out _ Q4.out
      have Q5 := Lib.hid q5
      have SQ := Lib.hid q5.cells
      unfold sixAt at SQ
      clear q5 ROW PUT Q4 S4 hρ
      refine wpAnyH_take (i := 0) (oi := { dst := some 29, op := Op.move (Operand.tmp 6), type := _, pos := _, after := _, guard := none }) (v := ?_) rfl (by kernel_rfl) (by kernel_rfl) (by kernel_rfl) (fun _ _ _ h => h) (Or.inl ⟨by rfl, ?_⟩) (by first | exact hHeld | assumption) ?_
      rotate_left 1
      · intro w hSw; (try dsimp only at hSw); go_simp; try (with_reducible rfl)
      try simp only [Act.put, List.setIfInBounds_toArray, List.set_cons_zero, List.set_cons_succ]
      refine wpAnyH_take (i := 1) (oi := { dst := some 30, op := Op.nilCheck (Operand.tmp 29), type := _, pos := _, after := _, guard := none }) (v := ?_) rfl (by kernel_rfl) (by kernel_rfl) (by kernel_rfl) (fun _ _ _ h => h) (Or.inl ⟨by rfl, ?_⟩) (by first | exact hHeld | assumption) ?_
      rotate_left 1
      · intro w hSw; (try dsimp only at hSw); go_simp; try (with_reducible rfl)
      try simp only [Act.put, List.setIfInBounds_toArray, List.set_cons_zero, List.set_cons_succ]
      refine wpAnyH_take (i := 2) (oi := { dst := some 31, op := Op.fieldAddr 114 (Operand.tmp 30) 1, type := _, pos := _, after := _, guard := none }) (v := ?_) rfl (by kernel_rfl) (by kernel_rfl) (by kernel_rfl) (fun _ _ _ h => h) (Or.inl ⟨by rfl, ?_⟩) (by first | exact hHeld | assumption) ?_
      rotate_left 1
      · intro w hSw; (try dsimp only at hSw); go_simp; try (with_reducible rfl)
      try simp only [Act.put, List.setIfInBounds_toArray, List.set_cons_zero, List.set_cons_succ]
      refine wpAnyH_take (i := 3) (oi := { dst := some 32, op := Op.load 112 (Operand.tmp 31), type := _, pos := _, after := _, guard := none }) (v := ?_) rfl (by kernel_rfl) (by kernel_rfl) (by kernel_rfl) (fun _ _ _ h => h) (Or.inl ⟨by rfl, ?_⟩) (by first | exact hHeld | assumption) ?_
      rotate_left 1
      · intro w hSw; (try dsimp only at hSw); go_simp; try (with_reducible rfl)
      try simp only [Act.put, List.setIfInBounds_toArray, List.set_cons_zero, List.set_cons_succ]
      refine wpAnyH_take (i := 4) (oi := { dst := some 33, op := Op.move (Operand.tmp 7), type := _, pos := _, after := _, guard := none }) (v := ?_) rfl (by kernel_rfl) (by kernel_rfl) (by kernel_rfl) (fun _ _ _ h => h) (Or.inl ⟨by rfl, ?_⟩) (by first | exact hHeld | assumption) ?_
      rotate_left 1
      · intro w hSw; (try dsimp only at hSw); go_simp; try (with_reducible rfl)
      try simp only [Act.put, List.setIfInBounds_toArray, List.set_cons_zero, List.set_cons_succ]
      refine wpAnyH_take (i := 5) (oi := { dst := some 34, op := Op.load 74 (Operand.tmp 8), type := _, pos := _, after := _, guard := none }) (v := ?_) rfl (by kernel_rfl) (by kernel_rfl) (by kernel_rfl) (fun _ _ _ h => h) (Or.inl ⟨by rfl, ?_⟩) (by first | exact hHeld | assumption) ?_
      rotate_left 1
      · intro w hSw; (try dsimp only at hSw); go_simp; try (with_reducible rfl)
      try simp only [Act.put, List.setIfInBounds_toArray, List.set_cons_zero, List.set_cons_succ]
      refine wpAnyH_ready (rs := [6]) (by kernel_rfl) (by simp) ?_
      refine AllReadyH.cons (o := { dst := some 35, op := Op.makeMap 115 none, type := _, pos := _, after := _, guard := none }) rfl (fun K hK => ?_) AllReadyH.nil
      · skip
        have KA := S5.out
        go_simp
        refine hK.out _ _ KA (fun hHeld => ?_)
        clear hK K
        try simp only [Act.put, List.setIfInBounds_toArray, List.set_cons_zero, List.set_cons_succ]
        refine wpAnyH_take (i := 7) (oi := { dst := some 36, op := Op.build 117 #[(0, Operand.tmp 34), (1, Operand.tmp 35)], type := _, pos := _, after := _, guard := none }) (v := ?_) rfl (by kernel_rfl) (by kernel_rfl) (by kernel_rfl) (fun _ _ _ h => h) (Or.inl ⟨by rfl, ?_⟩) (by first | exact hHeld | assumption) ?_
        rotate_left 1
        · intro w hSw; (try dsimp only at hSw); go_simp; try (with_reducible rfl)
        try simp only [Act.put, List.setIfInBounds_toArray, List.set_cons_zero, List.set_cons_succ]
        refine wpAnyH_take (i := 8) (oi := { dst := some 37, op := Op.indexAddr 112 (Operand.tmp 32) (Operand.tmp 33), type := _, pos := _, after := _, guard := none }) (v := ?_) rfl (by kernel_rfl) (by kernel_rfl) (by kernel_rfl) (fun _ _ _ h => h) (Or.inl ⟨by rfl, ?_⟩) (by first | exact hHeld | assumption) ?_
        rotate_left 1
        · intro w hSw; (try dsimp only at hSw); go_simp; try (with_reducible rfl)
        try simp only [Act.put, List.setIfInBounds_toArray, List.set_cons_zero, List.set_cons_succ]
        refine wpAnyH_ready (rs := [9]) (by kernel_rfl) (by simp) ?_
        refine AllReadyH.cons (o := { dst := none, op := Op.store 117 (Operand.tmp 37) (Operand.tmp 36), type := _, pos := _, after := _, guard := none }) rfl (fun K hK => ?_) AllReadyH.nil
        · skip
          obtain ⟨⟨p0, p1, p2, p3, p4, p5⟩, o0, o1, o2, o3, o4, o5⟩ := RW.out
          go_simp
          refine hK.out _ _ SQ.out (fun hHeld => ?_)
          clear hK K
          try simp only [Act.put, List.setIfInBounds_toArray, List.set_cons_zero, List.set_cons_succ]
          refine wpAnyH_done (by kernel_rfl) ?_ _
          clear hHeld KA S5 SQ RW p0 p1 p2 p3 p4 p5 o0 o1 o2 o3 o4 o5
          replace Q5 := Lib.hid (show NewV w w1 gt gm gl n ρ G F j (L.set j (numR ⟨dh, dk, dv, dm⟩ 0 wd.heap.size)) M' ⟨dh, dk, dv, dm⟩ ((((((((wd.alloc (.map #[] 0)).setCell ⟨gl, j * 6, none⟩ (.bool dh)).setCell ⟨gl, j * 6 + 1, none⟩ (.int .i64 dk)).setCell ⟨gl, j * 6 + 2, none⟩ (.int .i64 dv)).setCell ⟨gl, j * 6 + 3, none⟩ (.int .i64 dm)).setCell ⟨gl, j * 6 + 4, none⟩ (.map (some wd.heap.size))).setCell ⟨gl, j * 6 + 5, none⟩ (.int .i64 0))) F2 G' from Q5.out)
          generalize ((((((wd.alloc (.map #[] 0)).setCell ⟨gl, j * 6, none⟩ (.bool dh)).setCell ⟨gl, j * 6 + 1, none⟩ (.int .i64 dk)).setCell ⟨gl, j * 6 + 2, none⟩ (.int .i64 dv)).setCell ⟨gl, j * 6 + 3, none⟩ (.int .i64 dm)).setCell ⟨gl, j * 6 + 4, none⟩ (.map (some wd.heap.size))).setCell ⟨gl, j * 6 + 5, none⟩ (.int .i64 0) = u3 at *
          generalize wd.heap.size = mb at *
          obtain ⟨-, z0, -, -, -⟩ := Q5.out.cells
          dsimp only at z0
          cases hdh : dh
          · rw [hdh] at z0
            have NM := Lib.hid (NU.out u3 F2 G' mb hdh Q5.out.raw.rep)
            have nn := NU1.out hdh
            rw [nn, hdh] at NXT
            replace STP := Lib.hid fun M2 hs => STP.out M2 hdh hs
            rw [hdh] at NM
            clear NU NU0 NU1 nn hdh
            go_wp2_with fail
            refine (NM.out).mono ?_
            rintro e w5 ⟨rfl, L', F3, G3, q, hc⟩
            have Q7 := Lib.hid (Q5.out.raw.trans q)
            have HC := Lib.hid hc
            clear q hc NM Q5 z0
            cases hb : tSlots M' j dv.toNat 0 dm.toNat with
            | mk M2 b =>
              rw [hb] at Q7 HC
              dsimp only at Q7 HC ⊢
              cases b
              · have E := STP.out M2 hb
                have T7 := Lib.hid (HD.out _ _ _ _ _ Q7.out).1
                have EE := Lib.hid E
                clear STP NXT E
                go_wp2_with fail
                go_ret2
                rw [EE.out]
                refine ⟨G3, T7.out, fun x hx => ?_, rfl, Q7.out.rep.mem⟩
                rcases Q7.out.footG x hx with c | c
                · exact .inl c
                · have := B1.out.size; exact .inr (by omega)
              · have I2 := Lib.hid (NXT.out M2 mb hb)
                have hL' := HC.out rfl
                rw [List.set_set] at hL'
                rw [hL'] at Q7
                clear STP NXT HC hL'
                go_wp2_with fail
                go_round
                case rel => exact ⟨j + 1, _, M2, F3, G3, by go_num, by have := HJ.out; omega, I2, Q7⟩
                case measure => (have := HJ.out); simp [intOf]; omega
          · rw [hdh] at z0
            have nn := NU0.out hdh
            rw [nn, hdh] at NXT
            have I2 := Lib.hid (NXT.out M' mb rfl)
            have Q7 := Lib.hid Q5.out.raw
            rw [hdh] at Q7
            clear NU NU0 NU1 nn hdh Q5 NXT STP
            go_wp2_with fail
            go_round
            case rel => exact ⟨j + 1, _, M', F2, G', by go_num, by have := HJ.out; omega, I2, Q7⟩
            case measure => (have := HJ.out); simp [intOf]; omega
    · have hjn : j = n := by omega
      subst hjn
      have END := NewI.end_ (by rw [HN.out]; exact I.out) HR.out
      have EE := Lib.hid END
      have TT2 := Lib.hid (HD.out _ _ _ _ _ Q.out).1
      clear END
      go_wp2_with fail
      go_ret2
      rw [EE.out.1]
      refine ⟨G', TT2.out, fun x hx => ?_, gt, F', rfl, ⟨⟨_, L, rfl, Q.out.rep.maps, EE.out.2.1, EE.out.2.2⟩, Q.out.rep.mem, Q.out.rep.apart⟩, fun x hx => ?_⟩
      · rcases Q.out.footG x hx with c | c
        · exact .inl c
        · have := B1.out.size; exact .inr (by omega)
      · rcases Q.out.footF x hx with c | c
        · exact HF.out x c
        · have := B1.out.size; omega
theorem q9_New (w : World) (gm : Nat) (M : PM) (G : Nat → Prop) (l : List Df) (A : Option Addr) (n c : Nat) (h : RepP w gm M G) (hl : ∀ u, Turn G w u → DefS u A l) (hn : l.length = n) (hc : n ≤ c) (hcm : c ≤ maxLen) (hM : M.length ≤ 40000) :
    Calls Tryz.prog 22 #[.pointer (some ⟨gm, 0, none⟩), .slice A n c] w (NewQ gm G (tNew M l) w) := by
  cases hr : tRight l
  · exact q9_New_no w gm M G l A n c h (hl w (Turn.refl _ _)) hn hc hcm hr
  · exact q9_New_yes w gm M G l A n c h hl hn hc hcm hr hM
end Go.Proofs.YtlbhffdpklbhfaaGreat
namespace Go.Proofs.YtlbhffdpklbhfaaGreat
open Go Go.RowKit
set_option linter.unusedVariables false
set_option linter.unusedSimpArgs false
def cI (x : Ins) : List Value := [.int .u8 x.op, .int .u8 x.dst, .int .u8 x.src, .int .i16 x.off, .int .i32 x.imm]
def inC (l : List Ins) : List Value := l.flatMap cI
theorem inC_len (l : List Ins) : (inC l).length = l.length * 5 := by
  induction l with
  | nil => rfl
  | cons x l ih =>
    show (cI x ++ inC l).length = _
    rw [List.length_append, ih]
    simp [cI]
    omega
theorem inC_one (l : List Ins) : ∀ u ∈ inC l, u.oneCell' = true := by
  intro u hu
  simp only [inC, List.mem_flatMap] at hu
  obtain ⟨x, _, hx⟩ := hu
  simp only [cI, List.mem_cons, List.not_mem_nil, or_false] at hx
  rcases hx with rfl | rfl | rfl | rfl | rfl <;> rfl
theorem inC_at (l : List Ins) (k r : Nat) (h : k < l.length) (hr : r < 5) : (inC l)[k * 5 + r]? = (cI (iAt l k))[r]? := by
  induction l generalizing k with
  | nil => simp at h
  | cons x l ih =>
    have e : inC (x :: l) = cI x ++ inC l := rfl
    have hx : (cI x).length = 5 := rfl
    cases k with
    | zero =>
      rw [e, List.getElem?_append_left (by rw [hx]; omega)]
      simp [iAt]
    | succ k =>
      rw [e, List.getElem?_append_right (by rw [hx]; omega), hx]
      have := ih k (by simpa using h)
      rw [show (k + 1) * 5 + r - 5 = k * 5 + r by omega, this]
      simp [iAt]
section
variable {w w' : World} {base : Nat} {e : TypeId} {c : Nat} {A : Option Addr}
theorem own_insS {l : List Ins} {n : Nat} (hn : n = l.length) (h : w.ownsRow base e 5 (.slice A n c) n (inC l)) : InsS w A l := fun hl => by
  subst hn
  obtain ⟨g, rfl, _, hg⟩ := own_addr h hl
  have hc : ∀ k r, k < l.length → r < 5 → w.cell? ⟨g, 0 + k * 5 + r, none⟩ = (cI (iAt l k))[r]? := fun k r hk hr => by
    rw [Nat.zero_add, h.cellAt _ (by omega), inC_at l k r hk hr]
  refine ⟨g, 0, rfl, hg, fun k hk => ⟨?_, ?_, ?_, ?_, ?_⟩⟩
  · exact hc k 0 hk (by omega)
  · exact hc k 1 hk (by omega)
  · exact hc k 2 hk (by omega)
  · exact hc k 3 hk (by omega)
  · exact hc k 4 hk (by omega)
end
end Go.Proofs.YtlbhffdpklbhfaaGreat
