/-
  P8.2: bytes that are read are what is loaded byte by byte, and are there just if each one is: the walk of the statement MemReads.
  Conditions: none beyond the row's own.
-/
import Derived.Test.YtegmhbflgceecaaMemKeeps
import Derived.LoopTactic
namespace Go.Proofs.Ytegmhbflgceecaa
open Go.RowKit
set_option linter.unusedVariables false
set_option linter.unusedSimpArgs false

/-- An area of the law's: its number, how many bytes, not fixed. -/
def RdP (m : Nat) (p : PA) : Prop := p.id = 3 ∧ p.b.length = m ∧ p.bl.length = m ∧ p.fx = false
theorem rd_store {m : Nat} {p : PA} (h : RdP m p) (o : Nat) (ho : (o : Int) < 4294967296) (n : Int) : ∃ p' e, pStore [p] (atI 3 o) 1 n = ([p'], e) ∧ RdP m p' := by
  obtain ⟨h1, h2, h3, h4⟩ := h
  have hs := store_one (a := p) (n := n) (o := o) (s := 1) (by omega) ho rfl
  rw [h1] at hs
  refine ⟨_, _, hs, ?_⟩
  unfold stA
  split
  · rw [h4, if_neg Bool.false_ne_true]
    exact ⟨h1, (putN_len _ _ _).trans h2, (putN_len _ _ _).trans h3, h4⟩
  · exact ⟨h1, h2, h3, h4⟩
theorem rd_load {m : Nat} {p : PA} (h : RdP m p) (o : Nat) (ho : (o : Int) < 4294967296) : pLoad [p] (atI 3 o) 1 = if o + 1 ≤ m then (if p.bl.getD o false then (0, 81) else (bAt p.b o, 0)) else (0, 80) := by
  obtain ⟨h1, h2, h3, h4⟩ := h
  have hs := load_one (a := p) (o := o) (s := 1) (by omega) ho rfl
  rw [h1, read_byte, h2] at hs
  rw [show (1 : Int) = ((1 : Nat) : Int) from rfl, hs]
  split
  · split
    · rw [if_neg (by simp)]
    · rw [if_pos rfl, leN_one]
  · rw [if_neg (by simp)]
theorem rd_read {m : Nat} {p : PA} (h : RdP m p) (o s : Nat) (ho : (o : Int) < 4294967296) (hs : s ≤ 1024) :
    (pRead [p] (atI 3 o) s = ((p.b.drop o).take s, 0) ∧ o + s ≤ m ∧ ∀ t, o ≤ t → t < o + s → p.bl.getD t false = false) ∨
    (∃ e : Int, (e = 80 ∨ e = 81) ∧ pRead [p] (atI 3 o) s = ([], e) ∧ (s = 0 → ¬ o ≤ m) ∧ ¬ (o + s ≤ m ∧ ∀ t, o ≤ t → t < o + s → p.bl.getD t false = false)) := by
  obtain ⟨h1, h2, h3, h4⟩ := h
  have hr := read_one (a := p) (o := o) (s := s) (by omega) ho
  rw [h1] at hr
  unfold rdA at hr
  rw [if_neg (by omega), h2] at hr
  by_cases c1 : o + s ≤ m
  · rw [if_pos c1] at hr
    cases hb : blankB p o s
    · rw [hb, if_neg Bool.false_ne_true] at hr
      exact .inl ⟨hr, c1, bits_any.mp hb⟩
    · rw [hb, if_pos rfl] at hr
      refine .inr ⟨81, .inr rfl, hr, fun h0 => ?_, fun hc => ?_⟩
      · subst h0
        simp [blankB] at hb
      · unfold blankB at hb
        rw [bits_any.mpr hc.2] at hb
        cases hb
  · rw [if_neg c1] at hr
    exact .inr ⟨80, .inl rfl, hr, fun h0 => by omega, fun hc => c1 hc.1⟩

set_option maxRecDepth 100000 in
set_option maxHeartbeats 4000000 in
theorem l8_MemReads_s (b put : List Int) (B C : Option Addr) (d f : Nat) (off size : Int) (w : World) (x : List Int) (hx1 : BytS w B x) (hx2 : OkB x) (hx4 : x.length ≤ d) (hbd : b.length ≤ d) (hdm : d ≤ maxLen) (hp1 : BytS w C put) (hp2 : OkB put) (hpf : put.length ≤ f) (hfm : f ≤ maxLen) (hoff : 0 ≤ off ∧ off ≤ 255) (hsz : 0 ≤ size ∧ size ≤ 255) (o s : Nat) (ho : off % 110 = o) (hs : size % 40 = s) (hA : b.length ≤ 100 ∧ x.length = b.length) : Calls Try.prog 7 #[.slice B b.length d, .slice C put.length f, .int .u8 off, .int .u8 size] w (Fine w) := by
  have N := Lib.hid (mm_New w)
  have SH := Lib.hid l8_shown
  have x100 : x.length ≤ 100 := by omega
  have o110 : o < 110 := by omega
  have s40 : s < 40 := by omega
  have M1 := Lib.hid fun bl g w' (h : Mm w w' g []) (hb : BytS w' B x) => mm_Make 3 x B d bl false h hb hx2 hx4 hdm (by simp)
  have M1' := Lib.hid fun bl g w' (h : Mm w w' g []) (hb : BytS w' B x) => by
    have := M1.out bl g w' h hb
    rw [make_one 3 x bl false (by omega) (by omega)] at this
    exact this
  have HP0 : Hid (∀ bl, RdP x.length ⟨3, x, List.replicate x.length bl, false⟩) := Lib.hid fun bl => ⟨rfl, rfl, List.length_replicate, rfl⟩
  have HX := Lib.hid hx1
  have HC := Lib.hid hp1
  have HCO := Lib.hid hp2
  obtain ⟨hA1, hA2⟩ := hA
  clear M1 hx1 hx2 hp1 hp2
  generalize hlx : x.length = nx at *
  subst hA2
  have HLX := Lib.hid hlx
  clear hlx
  generalize b.length = nb at *
  generalize hlp : put.length = np at *
  have HLP := Lib.hid hlp
  clear hlp
  have g1 : (nb : Int) ≤ 100 := by omega
  have g2 : min (nb : Int) 100 = nb := by omega
  have md : (nb : Int) ≤ d := by omega
  have nbd : (nb : Int) ≤ d := by omega
  have p0 : (0 : Int) ≤ np := by omega
  have pf : (np : Int) ≤ f := by omega
  unfold maxLen at hdm hfm
  have AT := Lib.hid fun (k : Nat) w' => mm_at 3 (k : Int) w' _ rfl
  have AB : Hid (∀ k : Nat, k < 1000 → 0 ≤ atI 3 (k : Int) ∧ atI 3 (k : Int) ≤ 18446744073709551615) := Lib.hid fun k hk => by
    obtain ⟨_, _, h1, h2⟩ := at_parts (i := 3) (o := (k : Int)) (by omega) (by omega)
    exact ⟨h1, h2⟩
  go_enter Try.func7, Try.ntmps7
  go_wp2_with fail
  refine (SH.out _).mono ?_
  rintro e w0 ⟨rfl, b0⟩
  have V := Lib.hid b0
  clear b0
  go_wp2_with fail
  refine (N.out _ V.out).mono ?_
  rintro e w1 ⟨g, rfl, q1⟩
  have Q := Lib.hid q1
  clear q1 V N SH
  go_wp2_with fail
  refine (M1'.out _ _ _ Q.out (HX.out.after Q.out.below)).mono ?_
  rintro e w2 ⟨rfl, q⟩
  have Q1 : Hid (∃ p, Mm w w2 g [p] ∧ RdP nb p) := Lib.hid ⟨_, q, HP0.out _⟩
  clear q Q M1' HP0
  go_wp2_with fail
  go_loopw [41] (fun v wr => ∃ j : Nat, v = .int .i64 j ∧ j ≤ np ∧ Hid (∃ p, Mm w wr g [p] ∧ RdP nb p)) (fun v wr => np - (intOf v).toNat)
  case atStart => exact ⟨0, rfl, by omega, Q1⟩
  case round =>
    clear Q1
    obtain ⟨j, rfl, hj, Q1⟩ := hrel
    have j0 : (0 : Int) ≤ j := by omega
    by_cases hlt : (j : Int) < np
    · obtain ⟨p, hq, hp⟩ := Q1.out
      have Q := Lib.hid hq
      clear hq
      obtain ⟨gc, oc, rfl, hgc, hcc⟩ := (HC.out.after Q.out.below) (by rw [HLP.out]; omega)
      have cj := hcc j (by rw [HLP.out]; omega)
      obtain ⟨u1, u2⟩ := HCO.out j (by rw [HLP.out]; omega)
      clear hcc
      obtain ⟨k, hk⟩ : ∃ k : Nat, bAt put j = k := ⟨(bAt put j).toNat, by omega⟩
      rw [hk] at cj u1 u2
      clear hk
      by_cases h100 : (j : Int) < 100
      · obtain ⟨p', e', hs', hp'⟩ := rd_store hp k (by omega) (j : Int)
        have ST := Lib.hid fun w' (h : Mm w w' g [p]) => mm_Store (atI 3 k) 1 j h (AB.out k (by omega)) (by omega)
        rw [hs'] at ST
        have AA := Lib.hid (AT.out k)
        clear hs' hp
        have HP := Lib.hid hp'
        clear hp'
        generalize atI 3 (k : Int) = ak at *
        go_wp2_with fail
        refine (AA.out _).mono ?_
        rintro e wa ⟨rfl, b⟩
        replace Q := Lib.hid (Q.out.after b)
        clear b
        go_wp2_with fail
        refine (ST.out _ Q.out).mono ?_
        rintro e wb ⟨rfl, q⟩
        have Q2 : Hid (∃ p, Mm w wb g [p] ∧ RdP nb p) := Lib.hid ⟨_, q, HP.out⟩
        clear q
        go_wp2_with fail
        go_round
        case rel => exact ⟨j + 1, by go_num, by omega, Q2⟩
        case measure => simp [intOf]; omega
      · have h100' : (100 : Int) ≤ j := by omega
        go_wp2_with fail
        go_round
        case rel => exact ⟨j + 1, by go_num, by omega, Q1⟩
        case measure => simp [intOf]; omega
    · have hge : (np : Int) ≤ j := by omega
      obtain ⟨p, hq, hp⟩ := Q1.out
      have Q := Lib.hid hq
      have HP := Lib.hid hp
      clear hq hp Q1
      have AO := Lib.hid (AT.out o)
      have RD := Lib.hid fun w' (h : Mm w w' g [p]) => mm_Read (atI 3 o) s h (AB.out o (by omega))
      have LD : Hid (∀ (k : Nat) w', k < 1000 → Mm w w' g [p] → Calls Try.prog 16 #[.pointer (some ⟨g, 0, none⟩), .int .u64 (atI 3 k), .int .i64 1] w' (Gives (.tuple #[.int .u64 (if k + 1 ≤ nb then (if p.bl.getD k false then ((0 : Int), (81 : Int)) else (bAt p.b k, 0)) else (0, 80)).1, .int .i64 (if k + 1 ≤ nb then (if p.bl.getD k false then ((0 : Int), (81 : Int)) else (bAt p.b k, 0)) else (0, 80)).2]) w')) := Lib.hid fun k w' hk h => by
        have := mm_Load (atI 3 k) 1 h (AB.out k hk)
        rw [rd_load HP.out k (by omega)] at this
        exact this
      go_wp2_with fail
      refine (AO.out _).mono ?_
      rintro e wa ⟨rfl, b⟩
      replace Q := Lib.hid (Q.out.after b)
      clear b
      go_wp2_with fail
      refine (RD.out _ Q.out).mono ?_
      rintro e wb hrd
      rcases rd_read HP.out o s (by omega) (by omega) with ⟨h1, h2, h3⟩ | ⟨er, her, h1, h2, h3⟩
      · rw [h1] at hrd
        obtain ⟨A, c, rfl, hA, hc, hcm, hbel⟩ := hrd
        have hm : p.b.length = nb := HP.out.2.1
        have hl : ((p.b.drop o).take s).length = s := by rw [List.length_take, List.length_drop]; omega
        have hr : ∀ k, k < s → bAt ((p.b.drop o).take s) k = bAt p.b (o + k) := fun k hk => by
          unfold bAt
          rw [List.getD_eq_getElem?_getD, List.getElem?_take, if_pos hk, List.getElem?_drop, ← List.getD_eq_getElem?_getD]
        have hob : OkB p.b := (show p.ok from Q.out.ok 0 (by simp)).1
        simp only [hl] at hc hcm ⊢
        generalize (p.b.drop o).take s = r at *
        replace Q := Lib.hid (Q.out.after hbel)
        have HB := Lib.hid hA
        have HR := Lib.hid hr
        have H3 := Lib.hid h3
        have HO := Lib.hid hob
        clear hA hbel hr h1 h3 hob RD
        unfold maxLen at hcm
        go_wp2_with fail
        go_loopw [71] (fun v wr => ∃ i : Nat, v = .int .i64 i ∧ i ≤ s ∧ Hid (Mm w wr g [p]) ∧ Hid (BytS wr A r)) (fun v wr => s - (intOf v).toNat)
        case atStart => exact ⟨0, rfl, by omega, Q, HB⟩
        case round =>
          clear Q HB
          obtain ⟨i, rfl, hi, Q, HB⟩ := hrel
          have i0 : (0 : Int) ≤ i := by omega
          by_cases hlt : (i : Int) < s
          · have AI := AT.out (o + i)
            have LI : Hid (∀ w', Mm w w' g [p] → Calls Try.prog 16 #[.pointer (some ⟨g, 0, none⟩), .int .u64 (atI 3 (o + i : Nat)), .int .i64 1] w' (Gives (.tuple #[.int .u64 (bAt p.b (o + i)), .int .i64 0]) w')) := Lib.hid fun w' h => by
              have := LD.out (o + i) w' (by omega) h
              rw [H3.out (o + i) (by omega) (by omega), if_pos (by omega), if_neg Bool.false_ne_true] at this
              exact this
            obtain ⟨k1, k2⟩ := HO.out (o + i) (by omega)
            have hri := HR.out i (by omega)
            obtain ⟨k, hk⟩ : ∃ k : Nat, bAt p.b (o + i) = k := ⟨(bAt p.b (o + i)).toNat, by omega⟩
            rw [hk] at LI k1 k2 hri
            clear hk
            have AI' := Lib.hid AI
            clear AI
            generalize atI 3 ((o + i : Nat) : Int) = ai at *
            rw [show ((o + i : Nat) : Int) = (o : Int) + i by omega] at AI'
            go_wp2_with fail
            refine (AI'.out _).mono ?_
            rintro e wc ⟨rfl, b⟩
            replace Q := Lib.hid (Q.out.after b)
            replace HB := Lib.hid (HB.out.after b)
            clear b
            go_wp2_with fail
            refine (LI.out _ Q.out).mono ?_
            rintro e wd ⟨rfl, b⟩
            replace Q := Lib.hid (Q.out.after b)
            replace HB := Lib.hid (HB.out.after b)
            clear b
            obtain ⟨ga, oa, rfl, hga, hca⟩ := HB.out (by omega)
            have ci := hca i (by omega)
            rw [hri] at ci
            clear hca
            go_wp2_with fail
            go_round
            case rel => exact ⟨i + 1, by go_num, by omega, Q, HB⟩
            case measure => simp [intOf]; omega
          · have hge : (s : Int) ≤ i := by omega
            go_wp2_with fail
            all_goals
              go_ret
              exact ⟨rfl, Q.out.below⟩
      · rw [h1] at hrd
        obtain ⟨A, c, rfl, hA, hc, hcm, hbel⟩ := hrd
        have hm : p.b.length = nb := HP.out.2.1
        have hob : OkB p.b := (show p.ok from Q.out.ok 0 (by simp)).1
        replace Q := Lib.hid (Q.out.after hbel)
        have H2 := Lib.hid h2
        have H3 := Lib.hid h3
        have HO := Lib.hid hob
        clear hA hbel h1 h2 h3 hob RD
        simp only [List.length_nil] at hc ⊢
        unfold maxLen at hcm
        have e0 : er ≠ 0 := by omega
        go_wp2_with fail
        go_loopw [71] (fun v wr => ∃ i : Nat, v = .int .i64 i ∧ i ≤ s ∧ Hid (Mm w wr g [p] ∧ (i = 0 ∨ o + i ≤ nb) ∧ ∀ t, o ≤ t → t < o + i → p.bl.getD t false = false)) (fun v wr => s - (intOf v).toNat)
        case atStart => exact ⟨0, rfl, by omega, Lib.hid ⟨Q.out, .inl rfl, fun t h1 h2 => absurd h2 (by omega)⟩⟩
        case round =>
          clear Q
          obtain ⟨i, rfl, hi, V⟩ := hrel
          have Q := Lib.hid V.out.1
          have V1 := V.out.2.1
          have V2 := Lib.hid V.out.2.2
          clear V
          have i0 : (0 : Int) ≤ i := by omega
          by_cases hlt : (i : Int) < s
          · have AI := AT.out (o + i)
            have LI := LD.out (o + i)
            have AI' := Lib.hid AI
            clear AI
            have hcase : (∃ v cd : Int, cd ≠ 0 ∧ (if o + i + 1 ≤ nb then (if p.bl.getD (o + i) false then ((0 : Int), (81 : Int)) else (bAt p.b (o + i), 0)) else (0, 80)) = (v, cd)) ∨ (o + i + 1 ≤ nb ∧ p.bl.getD (o + i) false = false ∧ (if o + i + 1 ≤ nb then (if p.bl.getD (o + i) false then ((0 : Int), (81 : Int)) else (bAt p.b (o + i), 0)) else (0, 80)) = (bAt p.b (o + i), 0)) := by
              by_cases c1 : o + i + 1 ≤ nb
              · cases c2 : p.bl.getD (o + i) false
                · exact .inr ⟨c1, rfl, by rw [if_pos c1, if_neg Bool.false_ne_true]⟩
                · exact .inl ⟨0, 81, by omega, by rw [if_pos c1, if_pos rfl]⟩
              · exact .inl ⟨0, 80, by omega, by rw [if_neg c1]⟩
            rcases hcase with ⟨v, cd, hcd, hif⟩ | ⟨c1, c2, hif⟩
            · rw [hif] at LI
              replace LI : Hid (∀ w', Mm w w' g [p] → Calls Try.prog 16 #[.pointer (some ⟨g, 0, none⟩), .int .u64 (atI 3 (o + i : Nat)), .int .i64 1] w' (Gives (.tuple #[.int .u64 v, .int .i64 cd]) w')) := Lib.hid fun w' h => LI w' (by omega) h
              clear hif V2 H2 H3
              generalize atI 3 ((o + i : Nat) : Int) = ai at *
              rw [show ((o + i : Nat) : Int) = (o : Int) + i by omega] at AI'
              go_wp2_with fail
              refine (AI'.out _).mono ?_
              rintro e wc ⟨rfl, b⟩
              replace Q := Lib.hid (Q.out.after b)
              clear b
              go_wp2_with fail
              refine (LI.out _ Q.out).mono ?_
              rintro e wd ⟨rfl, b⟩
              replace Q := Lib.hid (Q.out.after b)
              clear b
              go_wp2_with fail
              all_goals
                go_ret
                rcases her with rfl | rfl <;> exact ⟨rfl, Q.out.below⟩
            · rw [hif] at LI
              obtain ⟨k1, k2⟩ := HO.out (o + i) (by omega)
              obtain ⟨k, hk⟩ : ∃ k : Nat, bAt p.b (o + i) = k := ⟨(bAt p.b (o + i)).toNat, by omega⟩
              rw [hk] at LI k1 k2
              clear hk
              replace LI : Hid (∀ w', Mm w w' g [p] → Calls Try.prog 16 #[.pointer (some ⟨g, 0, none⟩), .int .u64 (atI 3 (o + i : Nat)), .int .i64 1] w' (Gives (.tuple #[.int .u64 k, .int .i64 0]) w')) := Lib.hid fun w' h => LI w' (by omega) h
              clear hif
              have V3 : Hid (∀ t, o ≤ t → t < o + (i + 1) → p.bl.getD t false = false) := Lib.hid fun t h1 h2 => if he : t = o + i then by rw [he]; exact c2 else V2.out t h1 (by omega)
              generalize atI 3 ((o + i : Nat) : Int) = ai at *
              rw [show ((o + i : Nat) : Int) = (o : Int) + i by omega] at AI'
              clear c2
              go_wp2_with fail
              refine (AI'.out _).mono ?_
              rintro e wc ⟨rfl, b⟩
              replace Q := Lib.hid (Q.out.after b)
              clear b
              go_wp2_with fail
              refine (LI.out _ Q.out).mono ?_
              rintro e wd ⟨rfl, b⟩
              replace Q := Lib.hid (Q.out.after b)
              clear b
              go_wp2_with fail
              go_round
              case rel => exact ⟨i + 1, by go_num, by omega, Lib.hid ⟨Q.out, .inr (by omega), V3.out⟩⟩
              case measure => simp [intOf]; omega
          · have hge : (s : Int) ≤ i := by omega
            have his : i = s := by omega
            subst his
            have hz : i = 0 := by
              rcases V1 with h | h
              · exact h
              · exact absurd ⟨h, V2.out⟩ H3.out
            have ho2 : ¬ ((o : Int) ≤ nb) := by
              have := H2.out hz
              omega
            subst hz
            clear V1
            go_wp2_with fail
            all_goals
              go_ret
              rcases her with rfl | rfl <;> exact ⟨rfl, Q.out.below⟩

set_option maxRecDepth 100000 in
set_option maxHeartbeats 4000000 in
theorem l8_MemReads_b (b put : List Int) (B C : Option Addr) (d f : Nat) (off size : Int) (w : World) (x : List Int) (hx1 : BytS w B x) (hx2 : OkB x) (hx4 : x.length ≤ d) (hbd : b.length ≤ d) (hdm : d ≤ maxLen) (hp1 : BytS w C put) (hp2 : OkB put) (hpf : put.length ≤ f) (hfm : f ≤ maxLen) (hoff : 0 ≤ off ∧ off ≤ 255) (hsz : 0 ≤ size ∧ size ≤ 255) (o s : Nat) (ho : off % 110 = o) (hs : size % 40 = s) (hA : 100 < b.length ∧ x.length = 100) : Calls Try.prog 7 #[.slice B b.length d, .slice C put.length f, .int .u8 off, .int .u8 size] w (Fine w) := by
  have N := Lib.hid (mm_New w)
  have SH := Lib.hid l8_shown
  have x100 : x.length ≤ 100 := by omega
  have o110 : o < 110 := by omega
  have s40 : s < 40 := by omega
  have M1 := Lib.hid fun bl g w' (h : Mm w w' g []) (hb : BytS w' B x) => mm_Make 3 x B d bl false h hb hx2 hx4 hdm (by simp)
  have M1' := Lib.hid fun bl g w' (h : Mm w w' g []) (hb : BytS w' B x) => by
    have := M1.out bl g w' h hb
    rw [make_one 3 x bl false (by omega) (by omega)] at this
    exact this
  have HP0 : Hid (∀ bl, RdP x.length ⟨3, x, List.replicate x.length bl, false⟩) := Lib.hid fun bl => ⟨rfl, rfl, List.length_replicate, rfl⟩
  have HX := Lib.hid hx1
  have HC := Lib.hid hp1
  have HCO := Lib.hid hp2
  obtain ⟨hA1, hA2⟩ := hA
  clear M1 hx1 hx2 hp1 hp2
  generalize hlx : x.length = nx at *
  subst hA2
  have HLX := Lib.hid hlx
  clear hlx
  generalize b.length = nb at *
  generalize hlp : put.length = np at *
  have HLP := Lib.hid hlp
  clear hlp
  have g1 : (100 : Int) < nb := by omega
  have g2 : min (nb : Int) 100 = 100 := by omega
  have md : (100 : Int) ≤ d := by omega
  have nbd : (nb : Int) ≤ d := by omega
  have p0 : (0 : Int) ≤ np := by omega
  have pf : (np : Int) ≤ f := by omega
  unfold maxLen at hdm hfm
  have AT := Lib.hid fun (k : Nat) w' => mm_at 3 (k : Int) w' _ rfl
  have AB : Hid (∀ k : Nat, k < 1000 → 0 ≤ atI 3 (k : Int) ∧ atI 3 (k : Int) ≤ 18446744073709551615) := Lib.hid fun k hk => by
    obtain ⟨_, _, h1, h2⟩ := at_parts (i := 3) (o := (k : Int)) (by omega) (by omega)
    exact ⟨h1, h2⟩
  go_enter Try.func7, Try.ntmps7
  go_wp2_with fail
  refine (SH.out _).mono ?_
  rintro e w0 ⟨rfl, b0⟩
  have V := Lib.hid b0
  clear b0
  go_wp2_with fail
  refine (N.out _ V.out).mono ?_
  rintro e w1 ⟨g, rfl, q1⟩
  have Q := Lib.hid q1
  clear q1 V N SH
  go_wp2_with fail
  refine (M1'.out _ _ _ Q.out (HX.out.after Q.out.below)).mono ?_
  rintro e w2 ⟨rfl, q⟩
  have Q1 : Hid (∃ p, Mm w w2 g [p] ∧ RdP 100 p) := Lib.hid ⟨_, q, HP0.out _⟩
  clear q Q M1' HP0
  go_wp2_with fail
  go_loopw [41] (fun v wr => ∃ j : Nat, v = .int .i64 j ∧ j ≤ np ∧ Hid (∃ p, Mm w wr g [p] ∧ RdP 100 p)) (fun v wr => np - (intOf v).toNat)
  case atStart => exact ⟨0, rfl, by omega, Q1⟩
  case round =>
    clear Q1
    obtain ⟨j, rfl, hj, Q1⟩ := hrel
    have j0 : (0 : Int) ≤ j := by omega
    by_cases hlt : (j : Int) < np
    · obtain ⟨p, hq, hp⟩ := Q1.out
      have Q := Lib.hid hq
      clear hq
      obtain ⟨gc, oc, rfl, hgc, hcc⟩ := (HC.out.after Q.out.below) (by rw [HLP.out]; omega)
      have cj := hcc j (by rw [HLP.out]; omega)
      obtain ⟨u1, u2⟩ := HCO.out j (by rw [HLP.out]; omega)
      clear hcc
      obtain ⟨k, hk⟩ : ∃ k : Nat, bAt put j = k := ⟨(bAt put j).toNat, by omega⟩
      rw [hk] at cj u1 u2
      clear hk
      by_cases h100 : (j : Int) < 100
      · obtain ⟨p', e', hs', hp'⟩ := rd_store hp k (by omega) (j : Int)
        have ST := Lib.hid fun w' (h : Mm w w' g [p]) => mm_Store (atI 3 k) 1 j h (AB.out k (by omega)) (by omega)
        rw [hs'] at ST
        have AA := Lib.hid (AT.out k)
        clear hs' hp
        have HP := Lib.hid hp'
        clear hp'
        generalize atI 3 (k : Int) = ak at *
        go_wp2_with fail
        refine (AA.out _).mono ?_
        rintro e wa ⟨rfl, b⟩
        replace Q := Lib.hid (Q.out.after b)
        clear b
        go_wp2_with fail
        refine (ST.out _ Q.out).mono ?_
        rintro e wb ⟨rfl, q⟩
        have Q2 : Hid (∃ p, Mm w wb g [p] ∧ RdP 100 p) := Lib.hid ⟨_, q, HP.out⟩
        clear q
        go_wp2_with fail
        go_round
        case rel => exact ⟨j + 1, by go_num, by omega, Q2⟩
        case measure => simp [intOf]; omega
      · have h100' : (100 : Int) ≤ j := by omega
        go_wp2_with fail
        go_round
        case rel => exact ⟨j + 1, by go_num, by omega, Q1⟩
        case measure => simp [intOf]; omega
    · have hge : (np : Int) ≤ j := by omega
      obtain ⟨p, hq, hp⟩ := Q1.out
      have Q := Lib.hid hq
      have HP := Lib.hid hp
      clear hq hp Q1
      have AO := Lib.hid (AT.out o)
      have RD := Lib.hid fun w' (h : Mm w w' g [p]) => mm_Read (atI 3 o) s h (AB.out o (by omega))
      have LD : Hid (∀ (k : Nat) w', k < 1000 → Mm w w' g [p] → Calls Try.prog 16 #[.pointer (some ⟨g, 0, none⟩), .int .u64 (atI 3 k), .int .i64 1] w' (Gives (.tuple #[.int .u64 (if k + 1 ≤ 100 then (if p.bl.getD k false then ((0 : Int), (81 : Int)) else (bAt p.b k, 0)) else (0, 80)).1, .int .i64 (if k + 1 ≤ 100 then (if p.bl.getD k false then ((0 : Int), (81 : Int)) else (bAt p.b k, 0)) else (0, 80)).2]) w')) := Lib.hid fun k w' hk h => by
        have := mm_Load (atI 3 k) 1 h (AB.out k hk)
        rw [rd_load HP.out k (by omega)] at this
        exact this
      go_wp2_with fail
      refine (AO.out _).mono ?_
      rintro e wa ⟨rfl, b⟩
      replace Q := Lib.hid (Q.out.after b)
      clear b
      go_wp2_with fail
      refine (RD.out _ Q.out).mono ?_
      rintro e wb hrd
      rcases rd_read HP.out o s (by omega) (by omega) with ⟨h1, h2, h3⟩ | ⟨er, her, h1, h2, h3⟩
      · rw [h1] at hrd
        obtain ⟨A, c, rfl, hA, hc, hcm, hbel⟩ := hrd
        have hm : p.b.length = 100 := HP.out.2.1
        have hl : ((p.b.drop o).take s).length = s := by rw [List.length_take, List.length_drop]; omega
        have hr : ∀ k, k < s → bAt ((p.b.drop o).take s) k = bAt p.b (o + k) := fun k hk => by
          unfold bAt
          rw [List.getD_eq_getElem?_getD, List.getElem?_take, if_pos hk, List.getElem?_drop, ← List.getD_eq_getElem?_getD]
        have hob : OkB p.b := (show p.ok from Q.out.ok 0 (by simp)).1
        simp only [hl] at hc hcm ⊢
        generalize (p.b.drop o).take s = r at *
        replace Q := Lib.hid (Q.out.after hbel)
        have HB := Lib.hid hA
        have HR := Lib.hid hr
        have H3 := Lib.hid h3
        have HO := Lib.hid hob
        clear hA hbel hr h1 h3 hob RD
        unfold maxLen at hcm
        go_wp2_with fail
        go_loopw [71] (fun v wr => ∃ i : Nat, v = .int .i64 i ∧ i ≤ s ∧ Hid (Mm w wr g [p]) ∧ Hid (BytS wr A r)) (fun v wr => s - (intOf v).toNat)
        case atStart => exact ⟨0, rfl, by omega, Q, HB⟩
        case round =>
          clear Q HB
          obtain ⟨i, rfl, hi, Q, HB⟩ := hrel
          have i0 : (0 : Int) ≤ i := by omega
          by_cases hlt : (i : Int) < s
          · have AI := AT.out (o + i)
            have LI : Hid (∀ w', Mm w w' g [p] → Calls Try.prog 16 #[.pointer (some ⟨g, 0, none⟩), .int .u64 (atI 3 (o + i : Nat)), .int .i64 1] w' (Gives (.tuple #[.int .u64 (bAt p.b (o + i)), .int .i64 0]) w')) := Lib.hid fun w' h => by
              have := LD.out (o + i) w' (by omega) h
              rw [H3.out (o + i) (by omega) (by omega), if_pos (by omega), if_neg Bool.false_ne_true] at this
              exact this
            obtain ⟨k1, k2⟩ := HO.out (o + i) (by omega)
            have hri := HR.out i (by omega)
            obtain ⟨k, hk⟩ : ∃ k : Nat, bAt p.b (o + i) = k := ⟨(bAt p.b (o + i)).toNat, by omega⟩
            rw [hk] at LI k1 k2 hri
            clear hk
            have AI' := Lib.hid AI
            clear AI
            generalize atI 3 ((o + i : Nat) : Int) = ai at *
            rw [show ((o + i : Nat) : Int) = (o : Int) + i by omega] at AI'
            go_wp2_with fail
            refine (AI'.out _).mono ?_
            rintro e wc ⟨rfl, b⟩
            replace Q := Lib.hid (Q.out.after b)
            replace HB := Lib.hid (HB.out.after b)
            clear b
            go_wp2_with fail
            refine (LI.out _ Q.out).mono ?_
            rintro e wd ⟨rfl, b⟩
            replace Q := Lib.hid (Q.out.after b)
            replace HB := Lib.hid (HB.out.after b)
            clear b
            obtain ⟨ga, oa, rfl, hga, hca⟩ := HB.out (by omega)
            have ci := hca i (by omega)
            rw [hri] at ci
            clear hca
            go_wp2_with fail
            go_round
            case rel => exact ⟨i + 1, by go_num, by omega, Q, HB⟩
            case measure => simp [intOf]; omega
          · have hge : (s : Int) ≤ i := by omega
            go_wp2_with fail
            all_goals
              go_ret
              exact ⟨rfl, Q.out.below⟩
      · rw [h1] at hrd
        obtain ⟨A, c, rfl, hA, hc, hcm, hbel⟩ := hrd
        have hm : p.b.length = 100 := HP.out.2.1
        have hob : OkB p.b := (show p.ok from Q.out.ok 0 (by simp)).1
        replace Q := Lib.hid (Q.out.after hbel)
        have H2 := Lib.hid h2
        have H3 := Lib.hid h3
        have HO := Lib.hid hob
        clear hA hbel h1 h2 h3 hob RD
        simp only [List.length_nil] at hc ⊢
        unfold maxLen at hcm
        have e0 : er ≠ 0 := by omega
        go_wp2_with fail
        go_loopw [71] (fun v wr => ∃ i : Nat, v = .int .i64 i ∧ i ≤ s ∧ Hid (Mm w wr g [p] ∧ (i = 0 ∨ o + i ≤ 100) ∧ ∀ t, o ≤ t → t < o + i → p.bl.getD t false = false)) (fun v wr => s - (intOf v).toNat)
        case atStart => exact ⟨0, rfl, by omega, Lib.hid ⟨Q.out, .inl rfl, fun t h1 h2 => absurd h2 (by omega)⟩⟩
        case round =>
          clear Q
          obtain ⟨i, rfl, hi, V⟩ := hrel
          have Q := Lib.hid V.out.1
          have V1 := V.out.2.1
          have V2 := Lib.hid V.out.2.2
          clear V
          have i0 : (0 : Int) ≤ i := by omega
          by_cases hlt : (i : Int) < s
          · have AI := AT.out (o + i)
            have LI := LD.out (o + i)
            have AI' := Lib.hid AI
            clear AI
            have hcase : (∃ v cd : Int, cd ≠ 0 ∧ (if o + i + 1 ≤ 100 then (if p.bl.getD (o + i) false then ((0 : Int), (81 : Int)) else (bAt p.b (o + i), 0)) else (0, 80)) = (v, cd)) ∨ (o + i + 1 ≤ 100 ∧ p.bl.getD (o + i) false = false ∧ (if o + i + 1 ≤ 100 then (if p.bl.getD (o + i) false then ((0 : Int), (81 : Int)) else (bAt p.b (o + i), 0)) else (0, 80)) = (bAt p.b (o + i), 0)) := by
              by_cases c1 : o + i + 1 ≤ 100
              · cases c2 : p.bl.getD (o + i) false
                · exact .inr ⟨c1, rfl, by rw [if_pos c1, if_neg Bool.false_ne_true]⟩
                · exact .inl ⟨0, 81, by omega, by rw [if_pos c1, if_pos rfl]⟩
              · exact .inl ⟨0, 80, by omega, by rw [if_neg c1]⟩
            rcases hcase with ⟨v, cd, hcd, hif⟩ | ⟨c1, c2, hif⟩
            · rw [hif] at LI
              replace LI : Hid (∀ w', Mm w w' g [p] → Calls Try.prog 16 #[.pointer (some ⟨g, 0, none⟩), .int .u64 (atI 3 (o + i : Nat)), .int .i64 1] w' (Gives (.tuple #[.int .u64 v, .int .i64 cd]) w')) := Lib.hid fun w' h => LI w' (by omega) h
              clear hif V2 H2 H3
              generalize atI 3 ((o + i : Nat) : Int) = ai at *
              rw [show ((o + i : Nat) : Int) = (o : Int) + i by omega] at AI'
              go_wp2_with fail
              refine (AI'.out _).mono ?_
              rintro e wc ⟨rfl, b⟩
              replace Q := Lib.hid (Q.out.after b)
              clear b
              go_wp2_with fail
              refine (LI.out _ Q.out).mono ?_
              rintro e wd ⟨rfl, b⟩
              replace Q := Lib.hid (Q.out.after b)
              clear b
              go_wp2_with fail
              all_goals
                go_ret
                rcases her with rfl | rfl <;> exact ⟨rfl, Q.out.below⟩
            · rw [hif] at LI
              obtain ⟨k1, k2⟩ := HO.out (o + i) (by omega)
              obtain ⟨k, hk⟩ : ∃ k : Nat, bAt p.b (o + i) = k := ⟨(bAt p.b (o + i)).toNat, by omega⟩
              rw [hk] at LI k1 k2
              clear hk
              replace LI : Hid (∀ w', Mm w w' g [p] → Calls Try.prog 16 #[.pointer (some ⟨g, 0, none⟩), .int .u64 (atI 3 (o + i : Nat)), .int .i64 1] w' (Gives (.tuple #[.int .u64 k, .int .i64 0]) w')) := Lib.hid fun w' h => LI w' (by omega) h
              clear hif
              have V3 : Hid (∀ t, o ≤ t → t < o + (i + 1) → p.bl.getD t false = false) := Lib.hid fun t h1 h2 => if he : t = o + i then by rw [he]; exact c2 else V2.out t h1 (by omega)
              generalize atI 3 ((o + i : Nat) : Int) = ai at *
              rw [show ((o + i : Nat) : Int) = (o : Int) + i by omega] at AI'
              clear c2
              go_wp2_with fail
              refine (AI'.out _).mono ?_
              rintro e wc ⟨rfl, b⟩
              replace Q := Lib.hid (Q.out.after b)
              clear b
              go_wp2_with fail
              refine (LI.out _ Q.out).mono ?_
              rintro e wd ⟨rfl, b⟩
              replace Q := Lib.hid (Q.out.after b)
              clear b
              go_wp2_with fail
              go_round
              case rel => exact ⟨i + 1, by go_num, by omega, Lib.hid ⟨Q.out, .inr (by omega), V3.out⟩⟩
              case measure => simp [intOf]; omega
          · have hge : (s : Int) ≤ i := by omega
            have his : i = s := by omega
            subst his
            have hz : i = 0 := by
              rcases V1 with h | h
              · exact h
              · exact absurd ⟨h, V2.out⟩ H3.out
            have ho2 : ¬ ((o : Int) ≤ 100) := by
              have := H2.out hz
              omega
            subst hz
            clear V1
            go_wp2_with fail
            all_goals
              go_ret
              rcases her with rfl | rfl <;> exact ⟨rfl, Q.out.below⟩

theorem l8_MemReads (b put : List Int) (B C : Option Addr) (d f : Nat) (off size : Int) (w : World) (hb : BytS w B b) (hob : OkB b) (hbd : b.length ≤ d) (hdm : d ≤ maxLen) (hp : BytS w C put) (hop : OkB put) (hpf : put.length ≤ f) (hfm : f ≤ maxLen) (hoff : 0 ≤ off ∧ off ≤ 255) (hsz : 0 ≤ size ∧ size ≤ 255) :
    Calls Try.prog 7 #[.slice B b.length d, .slice C put.length f, .int .u8 off, .int .u8 size] w (Fine w) := by
  obtain ⟨x, hxb, hx1, hx2, _, hx4⟩ := few_row (N := 100) hb hob hbd
  obtain ⟨o, ho⟩ : ∃ o : Nat, off % 110 = o := ⟨(off % 110).toNat, by omega⟩
  obtain ⟨s, hs⟩ : ∃ s : Nat, size % 40 = s := ⟨(size % 40).toNat, by omega⟩
  by_cases hbb : b.length ≤ 100
  · exact l8_MemReads_s b put B C d f off size w x hx1 hx2 hx4 hbd hdm hp hop hpf hfm hoff hsz o s ho hs ⟨hbb, by omega⟩
  · exact l8_MemReads_b b put B C d f off size w x hx1 hx2 hx4 hbd hdm hp hop hpf hfm hoff hsz o s ho hs ⟨by omega, by omega⟩

end Go.Proofs.Ytegmhbflgceecaa
