/-
  Texts, one behind the other: MachCall2.
  Conditions: those that each theorem states.
-/
import Derived.Test.YtlbhffdpklbhfaaGreatPz34
namespace Go.Proofs.YtlbhffdpklbhfaaGreat
open Go.RowKit
set_option maxRecDepth 100000
set_option linter.unusedVariables false
set_option linter.unusedSimpArgs false
abbrev crV (r : CR) : Array Value := #[.int .i64 r.c.id, .int .i64 r.c.map, .slice r.ka r.c.k.length r.kc, .slice r.va r.c.v.length r.vc, .slice r.na r.c.n.length r.nc, .int .u64 r.c.ret]
def CR.id (r : CR) (i : Int) : CR := { r with c := { r.c with id := i } }
def CR.ret (r : CR) (n : Int) : CR := { r with c := { r.c with ret := n } }
theorem CR.id_ok {r : CR} (h : r.ok) {i : Int} (hi : 0 ≤ i ∧ i ≤ 8) : (r.id i).ok := ⟨⟨h.c.1, h.c.2.1, h.c.2.2.1, h.c.2.2.2.1, h.c.2.2.2.2.1, h.c.2.2.2.2.2.1, h.c.2.2.2.2.2.2.1, hi, h.c.2.2.2.2.2.2.2.2⟩, h.k, h.v, h.n⟩
theorem CR.ret_ok {r : CR} (h : r.ok) {n : Int} (hn : 0 ≤ n ∧ n ≤ 18446744073709551615) : (r.ret n).ok := ⟨⟨h.c.1, h.c.2.1, h.c.2.2.1, h.c.2.2.2.1, h.c.2.2.2.2.1, h.c.2.2.2.2.2.1, hn, h.c.2.2.2.2.2.2.2⟩, h.k, h.v, h.n⟩
theorem CRN.id {B : Nat} {u : World} {r : CR} (h : CRN B u r) (i : Int) : CRN B u (r.id i) := ⟨⟨h.s.k, h.s.v, h.s.n⟩, h.k, h.v, h.n⟩
theorem CRN.low {B : Nat} {u : World} {r : CR} (h : CRN B u r) {x : Nat} (hx : crB r x) : B ≤ x := by
  rcases hx with ⟨h0, o, e⟩ | ⟨h0, o, e⟩ | ⟨h0, o, e⟩
  · exact h.k x o h0 e
  · exact h.v x o h0 e
  · exact h.n x o h0 e
theorem CRO.mk' {H : Nat → Prop} {r : CR} (h : ∀ x, crB r x → ¬ H x) : CRO H r := ⟨fun g o h0 e => h g (.inl ⟨h0, o, e⟩), fun g o h0 e => h g (.inr (.inl ⟨h0, o, e⟩)), fun g o h0 e => h g (.inr (.inr ⟨h0, o, e⟩))⟩
theorem told_two {S : MS} (h : (mTolds S 0 (hS 2).told Cl.zero).2 = 0) : 0 < (mTolds S 0 (hS 2).told Cl.zero).1.n.length := by
  have q := tolds_nums S (hS 2).told 0 Cl.zero h
  have e : ((hS 2).told.filter (· == 4)).length = 1 := by decide
  omega
theorem Tn.chain {A : Sys} {H H6 : Nat → Prop} {w w7 w8 : World} (t : Turn H w w7) (f : ∀ x, H6 x → H x ∨ w.heap.size ≤ x) (k : Tn A H6 w7 w8) : Tn A H w w8 := by
  obtain ⟨F, k1, k2, k3⟩ := k
  refine ⟨F, k1, t.trans k2 f, fun x hx => ?_⟩
  rcases k3 x hx with c | c
  · exact f x c
  · exact .inr (Nat.le_trans t.size c)
theorem call_mid {w w2 w4 : World} {g : Nat} {S2 : MS} {H : Nat → Prop} {r : CR} (n : Int) (hHB : ∀ x, H x → x < w.heap.size) (sz : w.heap.size ≤ w2.heap.size) (B3 : Below w.heap.size w (w2.alloc (.cells (crV r) 59))) (rn : CRN w.heap.size w2 r)
    (t4 : Tn (sysX g S2) H (w2.alloc (.cells (crV r) 59)) w4) : Blk w2.heap.size (crV r) 59 w4 ∧ Blk w2.heap.size (crV (r.ret n)) 59 (w4.setCell ⟨w2.heap.size, 5, none⟩ (.int .u64 n)) ∧
    ∃ H4, (sysX g S2).R (w4.setCell ⟨w2.heap.size, 5, none⟩ (.int .u64 n)) H4 ∧ Turn H w (w4.setCell ⟨w2.heap.size, 5, none⟩ (.int .u64 n)) ∧ ((∀ x, H4 x → H x ∨ w.heap.size ≤ x) ∧ ¬ H4 w2.heap.size) ∧ CRS (w4.setCell ⟨w2.heap.size, 5, none⟩ (.int .u64 n)) (r.ret n) ∧ CRO H4 (r.ret n) ∧ ∀ x, crB (r.ret n) x → w.heap.size ≤ x := by
  obtain ⟨H4, h4, tt4, hf4⟩ := t4
  have asz : (w2.alloc (.cells (crV r) 59)).heap.size = w2.heap.size + 1 := by simp
  have gcH : ¬ H w2.heap.size := fun hx => by have := hHB _ hx; omega
  have b2 := Blk.new w2 (crV r) 59 (g := w2.heap.size) rfl
  have b4 : Blk w2.heap.size (crV r) 59 w4 := b2.same (tt4.block w2.heap.size b2.lt gcH)
  have g4 : ¬ H4 w2.heap.size := fun hx => by
    rcases hf4 _ hx with c | c
    · exact gcH c
    · omega
  have lt2 : ∀ x, crB r x → x < w2.heap.size := fun x hx => rn.s.lt hx
  have low : ∀ x, crB r x → w.heap.size ≤ x := fun x hx => rn.low hx
  refine ⟨b4, Blk.set b4 5 (.int .u64 n), H4, Sys.keep _ h4 (fun x hx => Below.heap_setCell _ _ _ _ (fun e => g4 (by have e' : x = w2.heap.size := e; rw [← e']; exact hx))), ?_, ⟨fun x hx => ?_, g4⟩, ?_, CRO.mk' fun x hx c => ?_, fun x hx => low x hx⟩
  · exact Turn.setCell (F := H) ((Turn.of_below (F := H) B3).trans tt4 (fun x hx => .inl hx)) (p := ⟨w2.heap.size, 5, none⟩) (.inr sz) _
  · rcases hf4 x hx with c | c
    · exact .inl c
    · exact .inr (by omega)
  · have q : CRS (w4.setCell ⟨w2.heap.size, 5, none⟩ (.int .u64 n)) r := rn.s.same fun x hx => by
      have h1 := lt2 x hx
      have h2 := low x hx
      have nh : ¬ H x := fun c => by have := hHB x c; omega
      rw [Below.heap_setCell _ _ _ _ (show x ≠ w2.heap.size by omega), tt4.block x (by omega) nh]
      exact Below.heap_alloc _ _ _ h1
    exact ⟨q.k, q.v, q.n⟩
  · have h1 := lt2 x hx
    have h2 := low x hx
    rcases hf4 x c with d | d
    · have := hHB x d; omega
    · omega
set_option maxHeartbeats 4000000 in
theorem m11_call (w : World) (g : Nat) (S : MS) (H : Nat → Prop) (id : Int) (h : (sysX g S).R w H) (hgo : S.go) :
    Calls Tryz.prog 68 #[.pointer (some ⟨g, 0, none⟩), .int .i64 id] w (OpS (sysX g (mCall S id).1) H (.int .i64 (mCall S id).2) w) := by
  have SG := Lib.hid (h10_Sig id w)
  have hHB : ∀ x, H x → x < w.heap.size := fun x hx => (sysX g S).lt h hx
  have HH := Lib.hid fun u (b : Below w.heap.size w u) => (sysX g S).after h b
  have SAME := Lib.hid fun u (b : Below w.heap.size w u) => Tn.refl h b
  have KD := Lib.hid (kd_of (i := id))
  have OK := Lib.hid (sysX_ok h)
  unfold mCall
  cases hk : hOk id
  · rw [hk] at SG
    rw [if_neg Bool.false_ne_true]
    clear KD HH hk
    generalize hS id = s at *
    obtain ⟨ks, tl, dr, mo⟩ := s
    go_enter Tryz.func68, Tryz.ntmps68
    go_wp2_with fail
    refine (SG.out).mono ?_
    rintro e w1 ⟨A, c, he, b1, ho⟩
    rw [show sgV ⟨ks, tl, dr, mo⟩ A c = .agg #[.slice A ks.length c, .int .u8 tl, .bool dr, .int .u64 mo] from rfl] at he
    subst he
    have B1 := Lib.hid (below_alloc b1 (.cells #[.slice A ks.length c, .int .u8 tl, .bool dr, .int .u64 mo] 175))
    clear b1 ho
    go_wp2_with fail
    go_ret
    exact ⟨rfl, SAME.out _ B1.out⟩
  · rw [if_pos rfl]
    have hw8 := hOk_ways hk
    have TW := Lib.hid (show id = 2 → (mTolds S 0 (hS id).told Cl.zero).2 = 0 → 0 < (mTolds S 0 (hS id).told Cl.zero).1.n.length from fun e2 => by rw [e2]; exact told_two)
    rw [hk] at SG
    clear hk
    have TL := Lib.hid fun u (b : Below w.heap.size w u) A c (hb : BytS u A (hS id).told) (hc : (hS id).told.length ≤ c) => m11_told u g S H (hS id) A c (HH.out u b) hb KD.out hc
    have TE := Lib.hid fun u (b : Below w.heap.size w u) (r : CR) (hr : r.ok) (hn : CRN w.heap.size u r) (h2 : r.c.id = 2 → 0 < r.c.n.length) => m11_tells u g w.heap.size r S H (HH.out u b) hr hn hHB b.size hgo h2
    clear KD
    generalize hS id = s at *
    obtain ⟨ks, tl, dr, mo⟩ := s
    dsimp only at *
    generalize mTolds S 0 ks Cl.zero = T at *
    obtain ⟨cc, ec⟩ := T
    dsimp only at *
    cases h1 : (ec == 0)
    · have n1 := ne_of_eq0 h1
      rw [if_neg Bool.false_ne_true]
      clear TE TW h1
      go_enter Tryz.func68, Tryz.ntmps68
      go_wp2_with fail
      refine (SG.out).mono ?_
      rintro e w1 ⟨A, c, he, b1, ho⟩
      rw [show sgV ⟨ks, tl, dr, mo⟩ A c = .agg #[.slice A ks.length c, .int .u8 tl, .bool dr, .int .u64 mo] from rfl] at he
      subst he
      have B1 := Lib.hid (below_alloc b1 (.cells #[.slice A ks.length c, .int .u8 tl, .bool dr, .int .u64 mo] 175))
      have BS := Lib.hid ((own_bytS rfl ho).after (below_alloc (Below.refl w1.heap.size w1) (.cells #[.slice A ks.length c, .int .u8 tl, .bool dr, .int .u64 mo] 175)))
      obtain ⟨A', c', hAc, hcl, -⟩ := own_slice ho
      injection hAc with q1 q2 q3
      subst q3
      have T2 := Lib.hid (TL.out _ B1.out A c BS.out hcl)
      rw [show sgV ⟨ks, tl, dr, mo⟩ A c = .agg #[.slice A ks.length c, .int .u8 tl, .bool dr, .int .u64 mo] from rfl] at T2
      clear b1 ho q1 q2 BS TL
      go_wp2_with fail
      refine (T2.out).mono ?_
      rintro e w2 ⟨r, he, hrc, hrok, hrn, b2⟩
      rw [show (cCR r).toArray = crV r from rfl] at he
      subst he
      have B2 := Lib.hid (below_alloc (below_next' B1.out b2) (.cells (crV r) 59))
      clear b2 hrc hrok hrn T2
      go_wp2_with fail
      go_ret
      exact ⟨rfl, SAME.out _ B2.out⟩
    · have h0 : ec = 0 := by simpa using h1
      generalize hR : mDone S { cc with id := id } (mTells S { cc with id := id }) = R at *
      subst h0
      rw [if_pos rfl]
      clear h1
      go_enter Tryz.func68, Tryz.ntmps68
      go_wp2_with fail
      refine (SG.out).mono ?_
      rintro e w1 ⟨A, c, he, b1, ho⟩
      rw [show sgV ⟨ks, tl, dr, mo⟩ A c = .agg #[.slice A ks.length c, .int .u8 tl, .bool dr, .int .u64 mo] from rfl] at he
      subst he
      have B1 := Lib.hid (below_alloc b1 (.cells #[.slice A ks.length c, .int .u8 tl, .bool dr, .int .u64 mo] 175))
      have BS := Lib.hid ((own_bytS rfl ho).after (below_alloc (Below.refl w1.heap.size w1) (.cells #[.slice A ks.length c, .int .u8 tl, .bool dr, .int .u64 mo] 175)))
      obtain ⟨A', c', hAc, hcl, -⟩ := own_slice ho
      injection hAc with q1 q2 q3
      subst q3
      have T2 := Lib.hid (TL.out _ B1.out A c BS.out hcl)
      rw [show sgV ⟨ks, tl, dr, mo⟩ A c = .agg #[.slice A ks.length c, .int .u8 tl, .bool dr, .int .u64 mo] from rfl] at T2
      clear b1 ho q1 q2 BS TL
      go_wp2_with fail
      refine (T2.out).mono ?_
      rintro e w2 ⟨r, he, hrc, hrok, hrn, b2⟩
      rw [show (cCR r).toArray = crV r from rfl] at he
      subst he
      have hid8 : 0 ≤ id ∧ id ≤ 8 := by omega
      have SZ2 := Lib.hid (Nat.le_trans B1.out.size b2.size)
      have B3 := Lib.hid (below_alloc (below_next' B1.out b2) (.cells (crV (r.id id)) 59))
      have R2 := Lib.hid ((hrn.id id).mono B1.out.size)
      have RN := Lib.hid ((hrn.after (below_alloc (Below.refl _ _) (.cells (crV (r.id id)) 59))).id id |>.mono B1.out.size)
      have RO := Lib.hid (CR.id_ok hrok hid8)
      have T3 := Lib.hid (TE.out _ B3.out (r.id id) RO.out RN.out (fun e2 => by
        have e3 : id = 2 := e2
        have := TW.out e3 trivial
        show 0 < r.c.n.length
        rw [hrc]
        exact this))
      rw [show (cCR (r.id id)).toArray = crV (r.id id) from rfl] at T3
      have HRC : Hid ((r.id id).c = { cc with id := id }) := Lib.hid (by rw [← show r.c = cc from hrc]; rfl)
      have TR := Lib.hid (tells_rng OK.out (r.id id).c)
      have HGO := Lib.hid hgo
      clear b2 hrc hrok hrn T2 TE TW RN hgo
      rw [show tellsS S (r.id id).c = tellsS S { cc with id := id } by rw [HRC.out]] at T3
      rw [show mTells S (r.id id).c = mTells S { cc with id := id } by rw [HRC.out]] at T3 TR
      have ES2 : Hid (tellsS S { cc with id := id } = { S with T := (mTells S { cc with id := id }).T, M := (mTells S { cc with id := id }).M, dr := (mTells S { cc with id := id }).dr }) := Lib.hid rfl
      have HD := Lib.hid hR
      clear hR
      generalize mTells S { cc with id := id } = tl at *
      have hcall : (tellsS S { cc with id := id }).calls = S.calls ∧ (tellsS S { cc with id := id }).steps = S.steps ∧ (tellsS S { cc with id := id }).r = S.r := ⟨rfl, rfl, rfl⟩
      have HC := Lib.hid hcall
      clear hcall
      generalize tellsS S { cc with id := id } = S2 at *
      go_wp2_with fail
      refine (T3.out).mono ?_
      rintro e w4 ⟨rfl, t4⟩
      have MID := Lib.hid (call_mid tl.n hHB SZ2.out B3.out R2.out t4)
      clear t4 T3
      obtain ⟨⟨z0, z1, z2, z3, z4, z5⟩, f0, f1, f2, f3, f4, f5⟩ := Blk.six MID.out.1
      cases h5 : (tl.e == 0)
      · have n5 := ne_of_eq0 h5
        have ER : Hid (R = (S2, tl.e)) := Lib.hid (by rw [← HD.out]; unfold mDone; rw [h5, if_neg Bool.false_ne_true, ES2.out])
        clear h5
        go_wp2_with fail
        go_ret
        obtain ⟨_, _, H4, h4, q1, ⟨q2, _⟩, _⟩ := MID.out
        rw [ER.out]
        exact ⟨rfl, H4, h4, q1, q2⟩
      · have n5 := ne_of_eq1 h5
        have ER : Hid (R = ({ S2 with calls := S.calls ++ [((r.id id).ret tl.n).c], r := (left5 S.r).set 0 (tl.n, true) }, 0)) := Lib.hid (by
          rw [← HD.out]
          unfold mDone
          rw [h5, if_pos rfl, ES2.out]
          have e1 : ((r.id id).ret tl.n).c = { (r.id id).c with ret := tl.n } := rfl
          rw [e1, HRC.out])
        clear h5
        obtain ⟨_, bx5, H4, h4, q1, ⟨q2, qg⟩, q3, q4, q5⟩ := MID.out
        have ROK := Lib.hid (CR.ret_ok RO.out TR.out)
        generalize hr4 : (r.id id).ret tl.n = r4 at *
        have hgoc : S2.calls.length ≤ S2.steps := by rw [HC.out.1, HC.out.2.1]; exact HGO.out.1
        obtain ⟨A0, n0, c0, L, hcell, hn0, hpush⟩ := sysX_push h4 hgoc
        have CE := Lib.hid (hcell _ (Below.refl _ _))
        have PU := Lib.hid hpush
        obtain ⟨i1, hi1, hz, hs6, hby⟩ := info_parts (show (Tryz.prog.info? 59).map (fun i => (i.zero, i.size, i.bytes)) = some (some (.agg #[.int .i64 0, .int .i64 0, .slice none 0 0, .slice none 0 0, .slice none 0 0, .int .u64 0]), 6, 96) by kernel_rfl)
        go_wp2_with fail
        generalize w4.setCell ⟨w2.heap.size, 5, none⟩ (.int .u64 tl.n) = w5 at *
        subst hn0
        have hb5 : S2.calls.length ≤ 50000 := by rw [HC.out.1]; obtain ⟨ha, hb, hc⟩ := HGO.out; omega
        obtain ⟨x31, f31, own5⟩ := hcell w5 (Below.refl _ _)
        have c31 := cell_alloc x31 (.cells (crV r4) 59)
        obtain ⟨⟨y0, y1, y2, y3, y4, y5⟩, -⟩ := Blk.six bx5
        have OWNL := Lib.hid (own5.alloc (.cells (crV r4) 59))
        have NEWS : Hid (∀ t u, (cCR r4)[t]? = some u → (w5.alloc (.cells (crV r4) 59)).cell? ((⟨w5.heap.size, 0, none⟩ : Addr).add t) = some u) :=
          Lib.hid (World.news_of_block (w := w5.alloc (.cells (crV r4) 59)) (t := 59) (fr := (0, 0)) (heap_alloc_new w5 _))
        have ONE : Hid (∀ u ∈ cCR r4, u.oneCell' = true) := Lib.hid (by
          intro u hu
          simp only [cCR, List.mem_cons, List.not_mem_nil, or_false] at hu
          rcases hu with rfl | rfl | rfl | rfl | rfl | rfl <;> rfl)
        have szw : w.heap.size ≤ w5.heap.size := q1.size
        have PUSH := Lib.hid fun w6 g2 cap2 => PU.out (w5.alloc (.cells (crV r4) 59)) w6 r4 g2 cap2 w.heap.size (below_alloc (Below.refl _ _) _) ROK.out q3 q4 q5 szw
        clear MID hcell hpush PU CE z0 z1 z2 z3 z4 z5 f0 f1 f2 f3 f4 f5 q3 q4 q5 szw
        have BX5 := Lib.hid bx5
        clear bx5
        go_region_law (refine step_append_lies _ rfl (.tmp 41) (.tmp 43) _ rfl 0 59 i1 (.agg #[.int .i64 0, .int .i64 0, .slice none 0 0, .slice none 0 0, .slice none 0 0, .int .u64 0]) 6 96 Tryz.underlying47 hi1 hz hs6 hby rfl (by omega) (.slice A0 S2.calls.length c0) S2.calls.length (crC L) rfl OWNL.out ⟨w5.heap.size, 0, none⟩ 1 1 _ rfl rfl NEWS.out ONE.out (by omega) (by unfold maxLen; omega) (by omega) (Nat.zero_le _) (w5.heap.size + 1) (by simp) ?_; intro g2 cap2 w6 hown6 hgr6 hat6 hlt6; have DONE := Lib.hid (PUSH.out w6 g2 cap2 hown6 ⟨hgr6.os, hgr6.tape, hgr6.output, hgr6.size, hgr6.block⟩ (by simpa using hat6)); have u0 := DONE.out.2.1; have u1 := DONE.out.2.2; clear hown6 hgr6 hat6 hlt6)
        all_goals
          obtain ⟨H6, h6, t6, f6⟩ := DONE.out.1
          clear DONE u0 u1 OWNL NEWS ONE PUSH c31 x31 f31 own5 y0 y1 y2 y3 y4 y5
          have BX6 := Lib.hid (BX5.out.same (t6.block _ BX5.out.lt qg))
          have hgH : H g := by
            obtain ⟨_, _, _, hgH, _⟩ := sysX_all h
            exact hgH
          have gcg : w2.heap.size ≠ g := fun e => by have := hHB g hgH; have := SZ2.out; omega
          have T6 : Hid (Turn H w (w6.setCell ⟨g, 31, none⟩ (.slice (some ⟨g2, 0, none⟩) (S2.calls.length + 1) cap2)) ∧ ∀ x, H6 x → H x ∨ w.heap.size ≤ x) := Lib.hid ⟨q1.trans t6 q2, fun x hx => by
            rcases f6 x hx with c | c
            · exact q2 x c
            · exact .inr c⟩
          clear t6 f6 BX5
          generalize w6.setCell ⟨g, 31, none⟩ (.slice (some ⟨g2, 0, none⟩) (S2.calls.length + 1) cap2) = w7 at *
          obtain ⟨hcl, tcl⟩ := sysX_clear h6
          have hcl2 := fun ty => hcl ty 10
          have BX7 := Lib.hid (BX6.out.same ((turn_cells w7 g [.int .u64 0, .bool false, .int .u64 0, .bool false, .int .u64 0, .bool false, .int .u64 0, .bool false, .int .u64 0, .bool false] 7 w7 (Turn.refl _ _)).block _ BX6.out.lt gcg))
          obtain ⟨⟨-, -, -, -, -, y5⟩, -⟩ := Blk.six BX7.out
          have TC7 := Lib.hid tcl
          clear hcl h6 tcl hHB hgH gcg q1 q2 qg hi1 hz hs6 hby hgoc hb5 h n5 hw8 hid8
          generalize w7.setCells g 7 [.int .u64 0, .bool false, .int .u64 0, .bool false, .int .u64 0, .bool false, .int .u64 0, .bool false, .int .u64 0, .bool false] = w8 at *
          have T8 := Lib.hid (Tn.chain T6.out.1 T6.out.2 TC7.out)
          obtain ⟨H8, h8, t8, f8⟩ := T8.out
          have hret : r4.c.ret = tl.n := by rw [← hr4]; rfl
          have C9 := Lib.hid (m11_setReg w8 g _ H8 0 r4.c.ret h8 ⟨by omega, by omega⟩ (by rw [hret]; exact TR.out))
          have EF : Hid (setR { pushS S2 r4.c with r := left5 (pushS S2 r4.c).r } 0 r4.c.ret = R.1 ∧ R.2 = 0) := Lib.hid (by
            rw [ER.out, hret]
            unfold setR pushS
            dsimp only
            rw [HC.out.1, HC.out.2.2]
            exact ⟨rfl, rfl⟩)
          have T89 := Lib.hid (And.intro t8 f8)
          clear h8 t8 f8 hret hr4
          go_wp2_with fail
          refine (C9.out).mono ?_
          rintro e w9 ⟨rfl, t9⟩
          have T9 := Lib.hid (Tn.chain T89.out.1 T89.out.2 t9)
          clear t9
          go_wp2_with fail
          go_ret
          rw [EF.out.2, ← EF.out.1]
          exact ⟨rfl, T9.out⟩
end Go.Proofs.YtlbhffdpklbhfaaGreat
