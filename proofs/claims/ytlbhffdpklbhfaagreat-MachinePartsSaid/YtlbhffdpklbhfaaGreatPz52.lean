/-
  Texts, one behind the other: MachAlike, MachLaw, MachineParts, MachWhy, MachAlso.
  Conditions: those that each theorem states.
-/
import Derived.Deep.RegionHeld3
import Derived.Test.YtlbhffdpklbhfaaGreatPz51
import Derived.Test.YtlbhffdpklbhfaaGreatPz49
import Derived.Test.YtlbhffdpklbhfaaGreatPz50
import Derived.Test.YtlbhffdpklbhfaaGreatPz48
namespace Go.Proofs.YtlbhffdpklbhfaaGreat
open Go.RowKit
set_option maxRecDepth 100000
set_option linter.unusedVariables false
set_option linter.unusedSimpArgs false
theorem EndR.stay {B : Nat} {R : MS} {va vm : Option Addr} {ca cm : Nat} {L : List CR} {Ls : List MR} {u u' : World} (h : EndR B R va ca vm cm L Ls u) (b : Below u.heap.size u u') : EndR B R va ca vm cm L Ls u' := by
  obtain ⟨⟨B2, h1⟩, ⟨B3, h2⟩, h3, h4⟩ := h
  exact ⟨⟨B2, h1.after b⟩, ⟨B3, h2.after b⟩, h3, h4⟩
theorem EndR.len {B : Nat} {R : MS} {va vm : Option Addr} {ca cm : Nat} {L : List CR} {Ls : List MR} {u : World} (h : EndR B R va ca vm cm L Ls u) : L.length = R.calls.length ∧ Ls.length = R.D.length := by
  refine ⟨by rw [← h.c, List.length_map], ?_⟩
  have := congrArg List.length h.m
  rw [List.length_map] at this
  rw [this]
  unfold mItems
  rw [List.length_map, List.length_range]
theorem EndR.map {B : Nat} {R : MS} {va vm : Option Addr} {ca cm : Nat} {L : List CR} {Ls : List MR} {u : World} (h : EndR B R va ca vm cm L Ls u) {k : Nat} (hk : k < R.D.length) :
    ∃ g, vm = some ⟨g, 0, none⟩ ∧ g < u.heap.size ∧ u.cell? ⟨g, k, none⟩ = some (.slice (mrAt Ls k).a (tItems R.T R.M (k : Int)).length (mrAt Ls k).c) ∧ ItemS u (mrAt Ls k).a (tItems R.T R.M (k : Int)) ∧ (tItems R.T R.M (k : Int)).length ≤ (mrAt Ls k).c ∧ (mrAt Ls k).c ≤ maxLen := by
  have hl := h.len.2
  obtain ⟨_, ⟨B3, h2⟩, _, h4⟩ := h
  have row := h2.row
  have hk2 : k < Ls.length := by omega
  obtain ⟨g, e, _, hg⟩ := own_addr row (by omega)
  subst e
  have ei : itL (mrAt Ls k).L = tItems R.T R.M (k : Int) := by
    have q := congrArg (fun l : List (List It) => l[k]?) h4
    simp only [List.getElem?_map] at q
    unfold mItems at q
    rw [List.getElem?_map, List.getElem?_range hk, List.getElem?_eq_getElem hk2] at q
    simp only [Option.map_some, Option.some.injEq] at q
    unfold mrAt
    rw [List.getD_eq_getElem?_getD, List.getElem?_eq_getElem hk2]
    exact q
  have own := h2.own k hk2
  have hlen : (tItems R.T R.M (k : Int)).length = (mrAt Ls k).L.length := by rw [← ei]; unfold itL; rw [List.length_map]
  unfold mrV at own
  have it := own.items
  have cp := own_caps own.row
  refine ⟨g, rfl, hg, ?_, ?_, by rw [hlen]; exact cp.1, cp.2⟩
  · rw [row.cellAt k (by omega), mrC_at Ls k hk2, hlen]
    rfl
  · rw [← ei]
    exact it.2
theorem cr_same {L L' : List CR} (h : L.map (·.c) = L'.map (·.c)) (k : Nat) (hk : k < L.length) : (crAt L k).c = (crAt L' k).c := by
  have q := congrArg (fun l : List Cl => l[k]?) h
  have hl : L.length = L'.length := by have := congrArg List.length h; simpa using this
  simp only [List.getElem?_map] at q
  rw [List.getElem?_eq_getElem hk, List.getElem?_eq_getElem (by omega)] at q
  simp only [Option.map_some, Option.some.injEq] at q
  unfold crAt
  rw [List.getD_eq_getElem?_getD, List.getD_eq_getElem?_getD, List.getElem?_eq_getElem hk, List.getElem?_eq_getElem (by omega)]
  exact q
structure E2S (w : World) (a b : Array Value) (u : World) : Prop where
  below : Below w.heap.size w u
  x : Blk w.heap.size a 54 u
  y : Blk (w.heap.size + 1) b 54 u
theorem E2S.after {w u u' : World} {a b : Array Value} (h : E2S w a b u) (k : Below u.heap.size u u') : E2S w a b u' := ⟨below_next' h.below k, h.x.after k, h.y.after k⟩
theorem E2S.new (w : World) (a b : Array Value) : E2S w a b ((w.alloc (.cells a 54)).alloc (.cells b 54)) := by
  have b1 := below_alloc (Below.refl w.heap.size w) (.cells a 54)
  have z1 : (w.alloc (.cells a 54)).heap.size = w.heap.size + 1 := by simp
  exact ⟨below_alloc b1 _, (Blk.new w a 54 rfl).after (below_alloc (Below.refl _ _) _), Blk.new _ b 54 z1.symm⟩
set_option maxHeartbeats 8000000 in
theorem r11_Alike (w : World) (R : MS) (N1 N2 : Nat) (va vm va' vm' : Option Addr) (ca cm ca' cm' : Nat) (L L' : List CR) (Ls Ls' : List MR) (h1 : EndR N1 R va ca vm cm L Ls w) (h2 : EndR N2 R va' ca' vm' cm' L' Ls' w) (hI : ∀ i : Nat, OkI (tItems R.T R.M (i : Int))) (hsm : ∀ k, k < R.calls.length → (crAt L k).c.n.length ≤ 8) :
    Calls Tryz.prog 40 #[endV R va ca vm cm, endV R va' ca' vm' cm'] w (Gives (.bool true) w) := by
  have CA := Lib.hid fun u (b : Below w.heap.size w u) => (show Calls Tryz.prog 85 #[.slice va R.calls.length ca, .slice va' R.calls.length ca'] u (Gives (.bool true) u) from by
    obtain ⟨⟨_, q1⟩, _⟩ := h1.stay b
    obtain ⟨⟨_, q2⟩, _⟩ := h2.stay b
    exact r11_calls u va va' ca ca' _ _ _ _ R.calls.length L L' q1 q2 h1.len.1 h2.len.1 (fun k hk => cr_same (h1.c.trans h2.c.symm) k (by rw [h1.len.1]; exact hk)) hsm)
  have MA := Lib.hid fun (k : Nat) (hk : k < R.D.length) u (b : Below w.heap.size w u) => (h1.stay b).map hk
  have MB := Lib.hid fun (k : Nat) (hk : k < R.D.length) u (b : Below w.heap.size w u) => (h2.stay b).map hk
  have SM := Lib.hid fun (k : Nat) u A B c d (x : ItemS u A (tItems R.T R.M (k : Int))) (y : ItemS u B (tItems R.T R.M (k : Int))) hc hd hcm hdm => r9_Same u _ _ A B c d x y (hI k) (hI k) hc hd hcm hdm
  have lim : R.D.length ≤ cm ∧ cm ≤ maxLen ∧ R.D.length ≤ cm' ∧ cm' ≤ maxLen := by
    obtain ⟨_, ⟨_, q1⟩, _, _⟩ := id h1
    obtain ⟨_, ⟨_, q2⟩, _, _⟩ := id h2
    have e1 := own_caps q1.row
    have e2 := own_caps q2.row
    rw [h1.len.2] at e1
    rw [h2.len.2] at e2
    exact ⟨e1.1, e1.2, e2.1, e2.2⟩
  unfold maxLen at lim
  unfold endV
  have Q := Lib.hid (E2S.new w #[.int .i64 (mCode R), .int .i64 R.at_, .int .u64 (mR0 R), .int .i64 R.steps, .slice va R.calls.length ca, .slice vm R.D.length cm] #[.int .i64 (mCode R), .int .i64 R.at_, .int .u64 (mR0 R), .int .i64 R.steps, .slice va' R.calls.length ca', .slice vm' R.D.length cm'])
  clear h1 h2 hI hsm
  generalize mCode R = code at *
  generalize mR0 R = r0 at *
  generalize hD : R.D.length = nd at *
  clear hD
  go_enter Tryz.func40, Tryz.ntmps40
  go_wp2_with fail
  refine (CA.out _ Q.out.below).mono ?_
  rintro e w2 ⟨rfl, b2⟩
  replace Q := Lib.hid (Q.out.after b2)
  obtain ⟨⟨x0, x1, x2, x3, x4, x5⟩, -⟩ := Blk.six Q.out.x
  obtain ⟨⟨y0, y1, y2, y3, y4, y5⟩, -⟩ := Blk.six Q.out.y
  clear b2
  go_wp2_with fail
  clear x0 x1 x2 x3 x4 x5 y0 y1 y2 y3 y4 y5 CA
  go_loopw [5] (fun iv wr => ∃ j : Nat, iv = .int .i64 j ∧ j ≤ nd ∧ Hid (E2S w #[.int .i64 code, .int .i64 R.at_, .int .u64 r0, .int .i64 R.steps, .slice va R.calls.length ca, .slice vm nd cm] #[.int .i64 code, .int .i64 R.at_, .int .u64 r0, .int .i64 R.steps, .slice va' R.calls.length ca', .slice vm' nd cm'] wr)) (fun iv wr => nd - (intOf iv).toNat)
  case atStart => exact ⟨0, rfl, by omega, Q⟩
  case round =>
    obtain ⟨j, rfl, hj, V⟩ := hrel
    have j0 : (0 : Int) ≤ (j : Int) := by omega
    have x5 := (Blk.six V.out.x).1.2.2.2.2.2
    have y5 := (Blk.six V.out.y).1.2.2.2.2.2
    by_cases hlt : (j : Int) < nd
    · have hjn : j < nd := by omega
      obtain ⟨g1, e1, hg1, c1, i1, l1, m1⟩ := MA.out j hjn wr V.out.below
      obtain ⟨g2, e2, hg2, c2, i2, l2, m2⟩ := MB.out j hjn wr V.out.below
      rw [e1] at x5
      rw [e2] at y5
      have KK := Lib.hid fun u (b : Below wr.heap.size wr u) => And.intro (cell_on x5 b) (And.intro (cell_on y5 b) (And.intro (cell_on c1 b) (cell_on c2 b)))
      have SJ := Lib.hid fun u (b : Below wr.heap.size wr u) => SM.out j u _ _ _ _ (i1.after b) (i2.after b) l1 l2 m1 m2
      simp only [decide_true] at SJ
      have HB : Below wr.heap.size wr wr.drew := Below.drew (Below.refl _ _)
      clear e1 e2 i1 i2 l1 l2 m1 m2
      generalize (tItems R.T R.M (j : Int)).length = tn at *
      generalize (mrAt Ls j).a = a1 at *
      generalize (mrAt Ls j).c = d1 at *
      generalize (mrAt Ls' j).a = a2 at *
      generalize (mrAt Ls' j).c = d2 at *
      go_wp2_with fail
      clear x5 y5 c1 c2
      go_region_held3 (fun w' => w'.cell? ⟨w.heap.size, 5, none⟩ = some (.slice (some ⟨g1, 0, none⟩) nd cm) ∧ w'.cell? ⟨w.heap.size + 1, 5, none⟩ = some (.slice (some ⟨g2, 0, none⟩) nd cm') ∧ w'.cell? ⟨g1, j, none⟩ = some (.slice a1 tn d1) ∧ w'.cell? ⟨g2, j, none⟩ = some (.slice a2 tn d2))
        (exact KK.out _ HB)
        (first | (go_at_call 86; refine (SJ.out _ HB).mono ?_; rintro e w4 ⟨rfl, b4⟩; replace HB := below_next' HB b4; clear b4))
      all_goals
        rename_i hh
        clear hh
        have V2 := Lib.hid (V.out.after HB)
        clear HB KK SJ
        go_wp2_with fail
        go_round
        case rel => exact ⟨j + 1, by go_num, by omega, V2⟩
        case measure => simp [intOf]; omega
    · have hjn : j = nd := by omega
      subst hjn
      go_wp2_with fail
      go_ret
      exact ⟨rfl, V.out.below⟩
set_option maxHeartbeats 8000000 in
theorem r11_Same (w : World) (R : MS) (N1 N2 : Nat) (va vm va' vm' : Option Addr) (ca cm ca' cm' : Nat) (L L' : List CR) (Ls Ls' : List MR) (h1 : EndR N1 R va ca vm cm L Ls w) (h2 : EndR N2 R va' ca' vm' cm' L' Ls' w) (hI : ∀ i : Nat, OkI (tItems R.T R.M (i : Int))) (hsm : ∀ k, k < R.calls.length → (crAt L k).c.n.length ≤ 8) :
    Calls Tryz.prog 18 #[endV R va ca vm cm, endV R va' ca' vm' cm'] w (Gives (.bool true) w) := by
  have AL := Lib.hid fun u (b : Below w.heap.size w u) => r11_Alike u R N1 N2 va vm va' vm' ca cm ca' cm' L L' Ls Ls' (h1.stay b) (h2.stay b) hI hsm
  unfold endV at AL
  unfold endV
  have Q := Lib.hid (E2S.new w #[.int .i64 (mCode R), .int .i64 R.at_, .int .u64 (mR0 R), .int .i64 R.steps, .slice va R.calls.length ca, .slice vm R.D.length cm] #[.int .i64 (mCode R), .int .i64 R.at_, .int .u64 (mR0 R), .int .i64 R.steps, .slice va' R.calls.length ca', .slice vm' R.D.length cm'])
  obtain ⟨⟨x0, x1, x2, x3, x4, x5⟩, -⟩ := Blk.six Q.out.x
  obtain ⟨⟨y0, y1, y2, y3, y4, y5⟩, -⟩ := Blk.six Q.out.y
  clear h1 h2 hI hsm
  generalize mCode R = code at *
  generalize mR0 R = r0 at *
  go_enter Tryz.func18, Tryz.ntmps18
  go_wp2_with fail
  refine (AL.out _ Q.out.below).mono ?_
  rintro e w2 ⟨rfl, b2⟩
  replace Q := Lib.hid (Q.out.after b2)
  clear b2 x0 x1 x2 x3 x4 x5 y0 y1 y2 y3 y4 y5
  obtain ⟨⟨x0, x1, x2, x3, x4, x5⟩, -⟩ := Blk.six Q.out.x
  obtain ⟨⟨y0, y1, y2, y3, y4, y5⟩, -⟩ := Blk.six Q.out.y
  go_wp2_with fail
  go_ret
  exact ⟨rfl, Q.out.below⟩
def mLaw (l : List Ins) (E : EV) : Option MS := mNew (l.take 520) (E.ctx.take 100) (E.D.take 10) ((eRows E.L).map itL) (E.dr.take 100)
theorem m11_NewLaw (u : World) (l : List Ins) (A : Option Addr) (c : Nat) (E : EV) (L' : List IR) (ia : Option Addr) (ic : Nat) (h : InsS u A l) (hx : OkAll l) (hc : l.length ≤ c) (hcm : c ≤ maxLen) (hs : EnvS u (cutE E L' ia ic)) (hk : (cutE E L' ia ic).ok) (hi : L'.map (·.l) = eRows E.L) :
    Calls Tryz.prog 8 #[.slice A (min 520 l.length) c, envV (cutE E L' ia ic)] u (NewM (mLaw l E) u) := by
  have q := m11_New u (l.take 520) A c (cutE E L' ia ic) (h.take 520) (hx.take 520) (by rw [List.length_take]; omega) (by rw [List.length_take]; omega) hcm hs hk
  have e : itLs L' = (eRows E.L).map itL := by rw [← hi, List.map_map]; rfl
  rw [List.length_take] at q
  unfold mLaw
  rw [← e]
  exact q
theorem law_can {l : List Ins} {E : EV} {S : MS} (hok : E.raw) (h : mLaw l E = some S) : S.can ∧ S.steps = 0 ∧ S.calls = [] ∧ S.over = false ∧ S.D = E.D.take 10 ∧ S.dr = E.dr.take 100 := by
  have e : (eRows E.L).map itL = itLs ((E.L.take 10).map fun r => ⟨none, r.c, eRow r.l.length r.l⟩) := by
    unfold eRows itLs
    rw [List.map_map, List.map_map]
    rfl
  unfold mLaw at h
  rw [e] at h
  refine new_can (fun k hk => ?_) h
  rw [List.length_map] at hk
  have hk2 : k < (E.L.take 10).length := hk
  rw [List.length_take] at hk2
  have e2 : irAt ((E.L.take 10).map fun r => (⟨none, r.c, eRow r.l.length r.l⟩ : IR)) k = ⟨none, (irAt E.L k).c, eRow (irAt E.L k).l.length (irAt E.L k).l⟩ := by
    unfold irAt
    rw [List.getD_eq_getElem?_getD, List.getD_eq_getElem?_getD, List.getElem?_map, List.getElem?_take, if_pos (by omega), List.getElem?_eq_getElem (by omega)]
    rfl
  rw [e2]
  obtain ⟨h1, h2, h3⟩ := hok.i.1 k (by omega)
  have hl := eRow_len (irAt E.L k).l.length (irAt E.L k).l
  have hl2 : (eRow (irAt E.L k).l.length (irAt E.L k).l).length ≤ (irAt E.L k).l.length := by
    have q := List.length_filter_le shortI ((irAt E.L k).l.take (min (irAt E.L k).l.length 20))
    rw [List.length_take] at q
    unfold eRow
    omega
  refine ⟨Nat.le_trans hl (by omega), fun j hj => ?_, Nat.le_trans hl2 h2, h3⟩
  obtain ⟨i, hi, ei⟩ := eRow_mem hj
  show ItmOk (xAt (eRow (irAt E.L k).l.length (irAt E.L k).l) j)
  rw [ei]
  exact h1 i hi
set_option maxHeartbeats 8000000 in
theorem l11_Parts_none (w : World) (l : List Ins) (A : Option Addr) (c : Nat) (E : EV) (f1 f2 : Int) (h : InsS w A l) (hx : OkAll l) (hc : l.length ≤ c) (hcm : c ≤ maxLen) (hE : EnvS w E) (hok : E.raw) (ho : mLaw l E = none) :
    Calls Tryz.prog 4 #[.slice A l.length c, envV E, .int .u16 f1, .int .u16 f2] w (Gives (.bool true) w) := by
  have SH := Lib.hid fun u => l11_shown u
  have FW := Lib.hid fun u => l11_few u A l.length c hc hcm
  have EN := Lib.hid fun u (b : Below w.heap.size w u) => l11_env u E (hE.after b) hok
  have NW := Lib.hid fun u L' ia ic (b : Below w.heap.size w u) hs hk hi => m11_NewLaw u l A c E L' ia ic (h.after b) hx hc hcm hs hk hi
  rw [ho] at NW
  unfold envV at EN
  unfold envV
  have Q := Lib.hid (EQ.new w (.slice E.ca E.ctx.length E.cc) (.slice E.da E.D.length E.dc) (.slice E.ia E.L.length E.ic) (.slice E.na E.dr.length E.nc))
  clear h hx hE hok ho
  generalize l.length = n at *
  unfold maxLen at hcm
  go_enter Tryz.func4, Tryz.ntmps4
  go_wp2_with fail
  refine (SH.out _).mono ?_
  rintro e w2 ⟨rfl, b2⟩
  replace Q := Lib.hid (Q.out.after b2)
  clear b2
  go_wp2_with fail
  have HB : Below w2.heap.size w2 w2.drew := Below.drew (Below.refl _ _)
  have KK := Lib.hid fun u (b : Below w2.heap.size w2 u) => (Q.out.after b).cells
  go_region_held3 (fun w' => w'.cell? ⟨w.heap.size, 0, none⟩ = some (.slice E.ca E.ctx.length E.cc) ∧ w'.cell? ⟨w.heap.size, 1, none⟩ = some (.slice E.da E.D.length E.dc) ∧ w'.cell? ⟨w.heap.size, 2, none⟩ = some (.slice E.ia E.L.length E.ic) ∧ w'.cell? ⟨w.heap.size, 3, none⟩ = some (.slice E.na E.dr.length E.nc))
    (first | with_reducible exact KK.out _ HB)
    (first
      | (go_at_call 9; refine (FW.out _).mono ?_; rintro e w3 ⟨rfl, b3⟩; replace HB := below_next' HB b3; clear b3)
      | (go_at_call 10; refine (EN.out _ (below_next' Q.out.bl HB)).mono ?_; rintro e w4 ⟨ia1, ic1, L1, rfl, hs, hk, hi, b3⟩; replace HB := below_next' HB b3; have HS := Lib.hid hs; have HKI := Lib.hid (And.intro hk hi); clear b3 hs hk hi)
      | (go_at_call 8; refine (NW.out _ L1 ia1 ic1 (below_next' Q.out.bl HB) HS.out HKI.out.1 HKI.out.2).mono ?_; rintro e w5 ⟨rfl, b5⟩; replace HB := below_next' HB b5; clear b5))
  rename_i hh
  clear hh
  replace Q := Lib.hid (Q.out.after HB)
  clear HB KK HS HKI
  generalize cutE E L1 ia1 ic1 = cv1 at *
  generalize hw1 : w5 = w2 at *
  go_wp2_with fail
  have HB : Below w2.heap.size w2 w2.drew := Below.drew (Below.refl _ _)
  have KK := Lib.hid fun u (b : Below w2.heap.size w2 u) => (Q.out.after b).cells
  go_region_held3 (fun w' => w'.cell? ⟨w.heap.size, 0, none⟩ = some (.slice E.ca E.ctx.length E.cc) ∧ w'.cell? ⟨w.heap.size, 1, none⟩ = some (.slice E.da E.D.length E.dc) ∧ w'.cell? ⟨w.heap.size, 2, none⟩ = some (.slice E.ia E.L.length E.ic) ∧ w'.cell? ⟨w.heap.size, 3, none⟩ = some (.slice E.na E.dr.length E.nc))
    (first | with_reducible exact KK.out _ HB)
    (first
      | (go_at_call 9; refine (FW.out _).mono ?_; rintro e w3 ⟨rfl, b3⟩; replace HB := below_next' HB b3; clear b3)
      | (go_at_call 10; refine (EN.out _ (below_next' Q.out.bl HB)).mono ?_; rintro e w4 ⟨ia1, ic1, L1, rfl, hs, hk, hi, b3⟩; replace HB := below_next' HB b3; have HS := Lib.hid hs; have HKI := Lib.hid (And.intro hk hi); clear b3 hs hk hi)
      | (go_at_call 8; refine (NW.out _ L1 ia1 ic1 (below_next' Q.out.bl HB) HS.out HKI.out.1 HKI.out.2).mono ?_; rintro e w5 ⟨rfl, b5⟩; replace HB := below_next' HB b5; clear b5))
  rename_i hh
  clear hh
  replace Q := Lib.hid (Q.out.after HB)
  clear HB KK HS HKI
  generalize cutE E L1 ia1 ic1 = cv2 at *
  generalize hw2 : w5 = w2 at *
  go_wp2_with fail
  go_ret
  exact ⟨rfl, Q.out.bl⟩
theorem rd_e (S : MS) (i : Int) : (rd S i).2 ≠ 111 := by unfold rd; split <;> simp
theorem pRead_e (M : PM) (a s : Int) : (pRead M a s).2 ≠ 111 := by
  unfold pRead
  split
  · simp
  · split
    · simp
    · split <;> simp
theorem pLoad_e (M : PM) (a s : Int) : (pLoad M a s).2 ≠ 111 := by
  unfold pLoad
  split
  · split
    · simp
    · exact pRead_e M a s
  · simp
theorem pStore_e (M : PM) (a s n : Int) : (pStore M a s n).2 ≠ 111 := by
  unfold pStore
  split
  · split
    · simp
    · split <;> simp
  · simp
theorem aluE_e (w : Bool) (o f : Int) : aluE w o f ≠ 111 := by unfold aluE; split <;> simp
theorem condE_e (o : Int) : condE o ≠ 111 := by unfold condE; split <;> simp
theorem swapE_e (k : Int) : swapE k ≠ 111 := by unfold swapE; split <;> simp
theorem mSec_e (S : MS) (x : Ins) (v : Wh) : (mSec S x v).2 ≠ 111 := by
  unfold mSec
  split
  · exact rd_e S _
  · simp
theorem mFst_e (S : MS) (x : Ins) (v : Wh) : (mFst S x v).2 ≠ 111 := by
  unfold mFst
  split
  · simp
  · exact rd_e S _
theorem mArith_e (S : MS) (x : Ins) (v : Wh) : (mArith S x v).2 ≠ 111 := by
  unfold mArith
  split
  · split
    · exact aluE_e _ _ _
    · exact mSec_e S x v
  · exact mFst_e S x v
theorem mLoad_e (S : MS) (x : Ins) (v : Wh) : (mLoad S x v).2 ≠ 111 := by
  unfold mLoad
  split
  · split
    · exact pLoad_e _ _ _
    · exact pLoad_e _ _ _
  · exact rd_e S _
theorem mSwap_e (S : MS) (x : Ins) (v : Wh) : (mSwap S x v).2 ≠ 111 := by
  unfold mSwap
  split
  · exact swapE_e _
  · exact rd_e S _
theorem mTable_e (S : MS) (x : Ins) : (mTable S x).2 ≠ 111 := by unfold mTable; split <;> simp
theorem mValue_e (S : MS) (x : Ins) (v : Wh) : (mValue S x v).2 ≠ 111 := by
  unfold mValue
  split
  · exact mArith_e S x v
  · split
    · exact mSwap_e S x v
    · split
      · simp
      · split
        · exact mTable_e S x
        · exact mLoad_e S x v
theorem mStore_e (S : MS) (x : Ins) (v : Wh) : (mStore S x v).2 ≠ 111 := by
  unfold mStore
  split
  · split
    · split
      · split
        · exact pStore_e _ _ _ _
        · exact pLoad_e _ _ _
      · exact pStore_e _ _ _ _
    · exact mSec_e S x v
  · exact rd_e S _
theorem mBranch_e (S : MS) (x : Ins) (v : Wh) : (mBranch S x v).2 ≠ 111 := by
  unfold mBranch
  split
  · split
    · exact condE_e _
    · exact mSec_e S x v
  · exact rd_e S _
theorem mTell_e (S : MS) (c : Cl) (k n : Int) : (mTell S c k n).2 ≠ 111 := by
  unfold mTell
  split
  · split <;> simp
  · split
    · exact pRead_e _ _ _
    · split
      · exact pRead_e _ _ _
      · split <;> simp
theorem mTel1_e (S : MS) (c : Cl) (k i : Int) : (mTel1 S c k i).2 ≠ 111 := by
  unfold mTel1
  split
  · exact mTell_e S c k _
  · exact rd_e S i
theorem mTolds_e (S : MS) (l : List Int) : ∀ (i : Nat) (c : Cl), (mTolds S i l c).2 ≠ 111 := by
  induction l with
  | nil => intro i c; unfold mTolds; simp
  | cons k ks ih =>
    intro i c
    unfold mTolds
    split
    · exact ih _ _
    · exact mTel1_e S c k _
theorem tLook_e (T : TT) (i : Int) (k : List Int) : (tLook T i k).2 ≠ 111 := by
  unfold tLook
  split
  · split <;> simp
  · simp
theorem tDrop_e (T : TT) (i : Int) (k : List Int) : (tDrop T i k).2.2 ≠ 111 := by
  unfold tDrop
  split
  · dsimp only
    split
    · simp
    · split <;> simp
  · simp
theorem hDr_e (i : Int) (l : List Int) : (hDr i l).2.2 ≠ 111 := by
  unfold hDr
  split
  · split <;> simp
  · simp
theorem mDone_e (S : MS) (c : Cl) (t : TS) (h : t.e ≠ 111) : (mDone S c t).2 ≠ 111 := by
  unfold mDone
  split
  · simp
  · exact h
theorem tPut_e (T : TT) (M : PM) (i : Int) (k v : List Int) (f : Int) : (tPut T M i k v f).e ≠ 111 := by
  unfold tPut
  split
  · dsimp only
    split
    · simp
    · split
      · split <;> simp
      · split
        · simp
        · split
          · simp
          · split
            · simp
            · split
              · simp
              · split <;> simp
  · simp
theorem mTells_e (S : MS) (c : Cl) : (mTells S c).e ≠ 111 := by
  unfold mTells
  split
  · exact tLook_e _ _ _
  · split
    · exact tPut_e _ _ _ _ _ _
    · split
      · exact tDrop_e _ _ _
      · split
        · simp
        · split
          · simp
          · exact hDr_e _ _
theorem mCall_e (S : MS) (id : Int) : (mCall S id).2 ≠ 111 := by
  unfold mCall
  split
  · split
    · exact mDone_e _ _ _ (mTells_e _ _)
    · exact mTolds_e _ _ _ _
  · simp
theorem pDo_e (S : MS) : (pDo S).e ≠ 111 := by
  rw [pDo_eq]
  unfold pDoX
  split
  · split
    · simp
    · exact rd_e _ _
  · split
    · simp
    · split
      · exact mBranch_e _ _ _
      · split
        · exact mCall_e _ _
        · split
          · exact mStore_e _ _ _
          · split
            · simp
            · exact mValue_e _ _ _
theorem mDone_why (S : MS) (c : Cl) (t : TS) : (mDone S c t).1.why = S.why := by unfold mDone; split <;> rfl
theorem mCall_why (S : MS) (id : Int) : (mCall S id).1.why = S.why := by
  unfold mCall
  split
  · split
    · exact mDone_why _ _ _
    · rfl
  · rfl
theorem pDo_why (S : MS) : (pDo S).S.why = S.why := by
  rw [pDo_eq]
  unfold pDoX
  split
  · split <;> rfl
  · split
    · rfl
    · split
      · rfl
      · split
        · exact mCall_why _ _
        · split
          · rfl
          · split <;> rfl
theorem step_why {S : MS} (h : S.why ≠ 111) : (pStep S).1.why ≠ 111 := by
  unfold pStep
  split
  · exact h
  · split
    · show (pDo S).S.why ≠ 111
      rw [pDo_why]
      exact h
    · exact pDo_e S
theorem run_why (n : Int) (S : MS) (h : S.why ≠ 111) : (pRun n S).why ≠ 111 := by
  generalize hk : (n - S.steps).toNat = k
  induction k generalizing S with
  | zero => rw [run_stop (.inr (by omega))]; exact h
  | succ k ih =>
    cases ho : S.over
    · rw [run_step ho (by omega)]
      rcases step_steps ho with h2 | h2
      · rw [run_stop (.inl h2)]; exact step_why h
      · exact ih _ (step_why h) (by rw [h2]; omega)
    · rw [run_stop (.inl ho)]; exact h
theorem code_over {S : MS} (h : S.why ≠ 111) : (mCode S == 111) = !S.over := by
  unfold mCode
  cases S.over
  · rfl
  · simpa using h
theorem new_why {l : List Ins} {ctx : List Int} {D : List Df} {items : List (List It)} {dr : List Int} {S : MS} (h : mNew l ctx D items dr = some S) : S.why = 0 := by
  unfold mNew at h
  split at h
  · unfold mMade at h
    split at h
    · cases h
    · split at h
      · have e := (Option.some.inj h).symm
        subst e
        rfl
      · cases h
  · cases h
theorem items_okM {T : TT} {M : PM} {i : Int} (hT : TOk T) (hM : PMok M) : OkI (tItems T M i) := by
  have all : ∀ p ∈ tItems T M i, OkB p.1 ∧ OkB p.2 := fun p hp => by
    unfold tItems at hp
    split at hp
    · rename_i hi
      obtain ⟨y, hy, rfl⟩ := List.mem_map.1 hp
      refine ⟨((hT i.toNat (by omega)).keys y hy).1, ?_⟩
      dsimp only
      unfold pArea
      cases hx : pIx M (tArea i y.s) with
      | none => exact fun k hk => absurd hk (by simp)
      | some k => exact (hM k (pIx_some hx).1).1
    · cases hp
  exact fun k hk => all _ (by unfold itA; rw [List.getD_eq_getElem?_getD, List.getElem?_eq_getElem hk]; exact List.getElem_mem hk)
theorem sysX_items {w : World} {g : Nat} {S : MS} {H : Nat → Prop} (h : (sysX g S).R w H) : ∀ i : Nat, OkI (tItems S.T S.M (i : Int)) := by
  obtain ⟨gm, gt, FT, _, _, hT, _, _⟩ := sysX_map h
  obtain ⟨F, G, hD, _⟩ := hT
  obtain ⟨vl, L, e, _, h2, _⟩ := hD.maps
  exact fun i => items_okM (h2.ok) hD.mem.ok
theorem sysX_small {w : World} {g : Nat} {S : MS} {H : Nat → Prop} (h : (sysX g S).R w H) {L : List CR} (hL : L.map (·.c) = S.calls) : ∀ k, k < S.calls.length → (crAt L k).c.n.length ≤ 8 := by
  obtain ⟨A0, c0, L0, _, _, _, ho, hl, hm⟩ := sysX_calls h
  intro k hk
  have hL2 : L.length = S.calls.length := by rw [← hL, List.length_map]
  have e := cr_same (hL.trans hm.symm) k (by omega)
  rw [e]
  exact (ho k hk).c.2.2.2.2.2.1
theorem EndR.turn {B : Nat} {R : MS} {va vm : Option Addr} {ca cm : Nat} {L : List CR} {Ls : List MR} {u u' : World} {F : Nat → Prop} (h : EndR B R va ca vm cm L Ls u) (t : Turn F u u') (hF : ∀ x, F x → x < B) : EndR B R va ca vm cm L Ls u' := by
  obtain ⟨⟨B2, h1⟩, ⟨B3, h2⟩, h3, h4⟩ := h
  have q : ∀ x, B ≤ x → x < u.heap.size → u'.heap[x]? = u.heap[x]? := fun x hx hl => t.block x hl (fun f => by have := hF x f; omega)
  exact ⟨⟨B2, h1.stay q⟩, ⟨B3, h2.stay t.size q⟩, h3, h4⟩
theorem Turn.blk {F : Nat → Prop} {u u' : World} {g : Nat} {cs : Array Value} {t : TypeId} (h : Turn F u u') (b : Blk g cs t u) (hg : ¬ F g) : Blk g cs t u' := b.same (h.block g b.lt hg)
abbrev endC (S : MS) (va : Option Addr) (ca : Nat) (vm : Option Addr) (cm : Nat) : Array Value := #[.int .i64 (mCode S), .int .i64 S.at_, .int .u64 (mR0 S), .int .i64 S.steps, .slice va S.calls.length ca, .slice vm S.D.length cm]
theorem step_over {S : MS} (h : S.over = true) : pStep S = (S, 114) := by unfold pStep; rw [h]; rfl
end Go.Proofs.YtlbhffdpklbhfaaGreat
