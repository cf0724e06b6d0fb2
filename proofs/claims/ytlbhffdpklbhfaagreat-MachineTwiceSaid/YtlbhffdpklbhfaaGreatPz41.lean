/-
  Texts, one behind the other: MachNew3, CodeBools.
  Conditions: those that each theorem states.
-/
import Derived.Test.YtlbhffdpklbhfaaGreatPz37
import Derived.Test.YtlbhffdpklbhfaaGreatPz27
import Derived.Test.YtlbhffdpklbhfaaGreatPz38
import Derived.Test.YtlbhffdpklbhfaaGreatPz40
import Derived.Test.YtlbhffdpklbhfaaGreatPz15
import Derived.Test.YtlbhffdpklbhfaaGreatPz14
namespace Go.Proofs.YtlbhffdpklbhfaaGreat
open Go.RowKit
set_option maxRecDepth 100000
set_option linter.unusedVariables false
set_option linter.unusedSimpArgs false
def m0 (l : List Ins) (D : List Df) (T : TT) (M : PM) (dr : List Int) : MS := ⟨l, D, T, M, dr, List.replicate 11 (0, false), 0, false, 0, 0, []⟩
def mMade (l : List Ins) (D : List Df) (items : List (List It)) (dr : List Int) (N : PM × Option TT) : Option MS :=
  match N.2 with
  | none => none
  | some T => if (mFill 0 items T N.1).2.2 then some (setR (setR (m0 l D (mFill 0 items T N.1).1 (mFill 0 items T N.1).2.1 dr) 1 (atI 1 0)) 10 (atI 2 512)) else none
def mNew (l : List Ins) (ctx : List Int) (D : List Df) (items : List (List It)) (dr : List Int) : Option MS :=
  if (chk l).2 == 0 && (decide (ctx.length ≤ 64) && decide (items.length ≤ D.length)) then mMade l D items dr (tNew (memM ctx) D) else none
structure EV where
  ctx : List Int
  ca : Option Addr
  cc : Nat
  D : List Df
  da : Option Addr
  dc : Nat
  L : List IR
  ia : Option Addr
  ic : Nat
  dr : List Int
  na : Option Addr
  nc : Nat
def envV (E : EV) : Value := .agg #[.slice E.ca E.ctx.length E.cc, .slice E.da E.D.length E.dc, .slice E.ia E.L.length E.ic, .slice E.na E.dr.length E.nc]
structure EnvS (u : World) (E : EV) : Prop where
  c : BytS u E.ca E.ctx
  d : DefS u E.da E.D
  i : IsS u E.ia E.L
  n : NumS u E.na E.dr
structure EV.ok (E : EV) : Prop where
  c : OkB E.ctx ∧ E.ctx.length ≤ E.cc ∧ E.cc ≤ maxLen
  d : E.D.length ≤ E.dc ∧ E.dc ≤ maxLen
  i : (∀ k, k < E.L.length → IrOk (irAt E.L k)) ∧ E.L.length ≤ E.ic ∧ E.ic ≤ maxLen
  n : OkN E.dr ∧ E.dr.length ≤ 100000 ∧ E.dr.length ≤ E.nc ∧ E.nc ≤ maxLen
theorem ItmS.after {w u : World} {A : Option Addr} {l : List Itm} (h : ItmS w A l) (b : Below w.heap.size w u) : ItmS u A l := fun hl => by
  obtain ⟨g, o, e, hg, hc⟩ := h hl
  exact ⟨g, o, e, Nat.lt_of_lt_of_le hg b.size, fun k hk => by
    obtain ⟨⟨h1, h2⟩, h3, h4⟩ := hc k hk
    exact ⟨⟨(b.cell (p := ⟨g, o + k * 2, none⟩) hg).trans h1, (b.cell (p := ⟨g, o + k * 2 + 1, none⟩) hg).trans h2⟩, h3.after b, h4.after b⟩⟩
theorem IsS.after {w u : World} {A : Option Addr} {L : List IR} (h : IsS w A L) (b : Below w.heap.size w u) : IsS u A L := fun hl => by
  obtain ⟨g, o, e, hg, hc⟩ := h hl
  exact ⟨g, o, e, Nat.lt_of_lt_of_le hg b.size, fun k hk => ⟨(b.cell (p := ⟨g, o + k, none⟩) hg).trans (hc k hk).1, (hc k hk).2.after b⟩⟩
theorem EnvS.after {w u : World} {E : EV} (h : EnvS w E) (b : Below w.heap.size w u) : EnvS u E := ⟨h.c.after b, h.d.after b, h.i.after b, h.n.after b⟩
def NewM (o : Option MS) (w : World) (e : Ending) (w' : World) : Prop :=
  match o with
  | none => e = .returned (.tuple #[.pointer none, .int .i64 1]) ∧ Below w.heap.size w w'
  | some S => ∃ g F, e = .returned (.tuple #[.pointer (some ⟨g, 0, none⟩), .int .i64 0]) ∧ (sysX g S).R w' F ∧ Below w.heap.size w w' ∧ ∀ x, F x → w.heap.size ≤ x
theorem chk_pos {l : List Ins} (h : (chk l).2 = 0) : 0 < l.length := by
  cases l with
  | nil => exact absurd h (by decide)
  | cons x l => simp
theorem slotsM_len (M : PM) (i v k n : Nat) : (tSlots M i v k n).1.length ≤ M.length + n := by
  induction n generalizing M k with
  | zero => exact Nat.le_refl _
  | succ n ih =>
    unfold tSlots
    have h1 := pMake_lenM M (tArea i k) (List.replicate v 0) false false
    split
    · have := ih (pMake M (tArea i k) (List.replicate v 0) false false).1 (k + 1)
      omega
    · simp only
      omega
theorem newM_len : ∀ (D : List Df) (i : Nat) (M : PM) (T : TT), (∀ d ∈ D, d.good = true) → (tNewG i D M T).1.length ≤ M.length + 16 * D.length := by
  intro D
  induction D with
  | nil => intro i M T _; exact Nat.le_refl _
  | cons d D ih =>
    intro i M T hg
    have hgd := good_at (hg d (List.mem_cons_self ..))
    have hs := slotsM_len M i d.val.toNat 0 d.max.toNat
    simp only [List.length_cons]
    unfold tNewG
    split
    · have := ih (i + 1) M (T ++ [⟨d, [], 0⟩]) (fun x hx => hg x (List.mem_cons_of_mem _ hx))
      omega
    · split
      · have := ih (i + 1) (tSlots M i d.val.toNat 0 d.max.toNat).1 (T ++ [⟨d, numL d.max.toNat, d.max.toNat⟩]) (fun x hx => hg x (List.mem_cons_of_mem _ hx))
        omega
      · simp only
        omega
theorem newM_defs : ∀ (D : List Df) (i : Nat) (M : PM) (T : TT) (T' : TT), (tNewG i D M T).2 = some T' → T'.map (·.d) = T.map (·.d) ++ D := by
  intro D
  induction D with
  | nil =>
    intro i M T T' h
    cases h
    simp
  | cons d D ih =>
    intro i M T T' h
    unfold tNewG at h
    split at h
    · rw [ih _ _ _ _ h]
      simp
    · split at h
      · rw [ih _ _ _ _ h]
        simp
      · cases h
theorem fillRow_same : ∀ (l : List It) (i : Nat) (T : TT) (M : PM), SameD T (mFillRow i l T M).1 ∧ (mFillRow i l T M).2.1.length ≤ M.length + l.length := by
  intro l
  induction l with
  | nil => intro i T M; exact ⟨SameD.refl _, Nat.le_refl _⟩
  | cons x l ih =>
    intro i T M
    obtain ⟨h1, h2⟩ := tPut_same T M i x.1 x.2 0
    unfold mFillRow
    simp only [List.length_cons]
    split
    · obtain ⟨k1, k2⟩ := ih i (tPut T M i x.1 x.2 0).T (tPut T M i x.1 x.2 0).M
      exact ⟨h1.trans k1, by omega⟩
    · exact ⟨h1, by simp only; omega⟩
theorem fill_same : ∀ (L : List (List It)) (i : Nat) (T : TT) (M : PM), (∀ r ∈ L, r.length ≤ 1000) → SameD T (mFill i L T M).1 ∧ (mFill i L T M).2.1.length ≤ M.length + 1000 * L.length := by
  intro L
  induction L with
  | nil => intro i T M _; exact ⟨SameD.refl _, Nat.le_refl _⟩
  | cons r L ih =>
    intro i T M hr
    obtain ⟨h1, h2⟩ := fillRow_same r i T M
    have hr1 := hr r (List.mem_cons_self ..)
    unfold mFill
    simp only [List.length_cons]
    split
    · obtain ⟨k1, k2⟩ := ih (i + 1) (mFillRow i r T M).1 (mFillRow i r T M).2.1 (fun x hx => hr x (List.mem_cons_of_mem _ hx))
      exact ⟨h1.trans k1, by omega⟩
    · exact ⟨h1, by simp only; omega⟩
theorem itLs_short {L : List IR} (h : ∀ k, k < L.length → IrOk (irAt L k)) : ∀ r ∈ itLs L, r.length ≤ 1000 := by
  intro r hr
  unfold itLs at hr
  obtain ⟨x, hx, rfl⟩ := List.mem_map.1 hr
  obtain ⟨k, hk, rfl⟩ := List.getElem_of_mem hx
  have := (h k hk).1
  unfold irAt at this
  rw [List.getD_eq_getElem?_getD, List.getElem?_eq_getElem hk] at this
  unfold itL
  rw [List.length_map]
  exact this
theorem m0_ok {l : List Ins} {ctx : List Int} {D : List Df} {L : List IR} {dr : List Int} {T : TT} (hx : OkAll l) (hc : (chk l).2 = 0) (hL : ∀ k, k < L.length → IrOk (irAt L k)) (hLD : L.length ≤ D.length) (hn : OkN dr ∧ dr.length ≤ 100000)
    (hT : (tNew (memM ctx) D).2 = some T) : (m0 l D (mFill 0 (itLs L) T (tNew (memM ctx) D).1).1 (mFill 0 (itLs L) T (tNew (memM ctx) D).1).2.1 dr).ok ∧ tRight D = true ∧ T.length = D.length ∧ (tNew (memM ctx) D).1.length ≤ 130 := by
  have hr : tRight D = true := by
    cases h : tRight D
    · unfold tNew at hT
      rw [h, if_neg Bool.false_ne_true] at hT
      cases hT
    · rfl
  have e : tNew (memM ctx) D = tNewG 0 D (memM ctx) [] := by unfold tNew; rw [hr, if_pos rfl]
  rw [e] at hT ⊢
  have hr' := hr
  unfold tRight at hr
  simp only [Bool.and_eq_true, List.all_eq_true, decide_eq_true_eq] at hr
  have hd := newM_defs D 0 (memM ctx) [] T hT
  have hlen := newM_len D 0 (memM ctx) [] hr.1
  rw [List.map_nil, List.nil_append] at hd
  have hTl : T.length = D.length := by rw [← hd, List.length_map]
  obtain ⟨s1, s2⟩ := fill_same (itLs L) 0 T (tNewG 0 D (memM ctx) []).1 (itLs_short hL)
  have hLl : (itLs L).length = L.length := by unfold itLs; rw [List.length_map]
  have hm : (memM ctx).length = 2 := rfl
  refine ⟨⟨hx, hc, ⟨chk_pos hc, first_in (chk_pos hc)⟩, rfl, fun i hi => ?_, ⟨hr.2, s1.1.trans hTl, fun i hi => ?_, ?_⟩, hn, ⟨Nat.zero_le _, ?_⟩⟩, hr', hTl, by omega⟩
  · have : rg (List.replicate 11 (0, false)) i = (0, false) := by
      unfold rg
      rw [List.getD_eq_getElem?_getD, List.getElem?_replicate]
      split <;> rfl
    show 0 ≤ (rg (List.replicate 11 (0, false)) i).1 ∧ (rg (List.replicate 11 (0, false)) i).1 ≤ 18446744073709551615
    rw [this]
    omega
  · refine (s1.2 i).trans ?_
    have hi' : i < T.length := by rw [hTl]; exact hi
    show (mt T i).d = dAt D i
    have q : dAt (T.map (·.d)) i = (mt T i).d := by
      unfold mt dAt
      rw [List.getD_eq_getElem?_getD, List.getD_eq_getElem?_getD, List.getElem?_map, List.getElem?_eq_getElem hi']
      rfl
    rw [hd] at q
    exact q.symm
  · simp only [List.all_eq_true]
    exact hr.1
  · show (mFill 0 (itLs L) T (tNewG 0 D (memM ctx) []).1).2.1.length ≤ 20001 + 0
    omega
def cDfM (d : Df) : List Value := [.bool d.hash, .int .i64 d.key, .int .i64 d.val, .int .i64 d.max]
def dfCM (D : List Df) : List Value := D.flatMap cDfM
theorem dfM_one (D : List Df) : ∀ u ∈ dfCM D, u.oneCell' = true := by
  intro u hu
  simp only [dfCM, List.mem_flatMap] at hu
  obtain ⟨d, _, hd⟩ := hu
  simp only [cDfM, List.mem_cons, List.not_mem_nil, or_false] at hd
  rcases hd with rfl | rfl | rfl | rfl <;> rfl
theorem dfM_len (D : List Df) : (dfCM D).length = D.length * 4 := flat_len (c := cDfM) (fun _ => rfl) D
theorem dfS_news {w : World} {A : Option Addr} {D : List Df} (h : DefS w A D) : ∀ a, A = some a → ∀ j u, (dfCM D)[j]? = some u → w.cell? (a.add j) = some u := by
  intro a ha j u hu
  by_cases h0 : 0 < D.length
  · obtain ⟨g, o, e, _, hc⟩ := h h0
    subst e
    cases ha
    refine flat_news (c := cDfM) (s := 4) (fun _ => rfl) (by omega) Df.zero (fun k hk r hr => ?_) j u hu
    obtain ⟨c0, c1, c2, c3⟩ := hc k hk
    have hr' : r = 0 ∨ r = 1 ∨ r = 2 ∨ r = 3 := by omega
    rcases hr' with rfl | rfl | rfl | rfl
    · exact c0
    · exact c1
    · exact c2
    · exact c3
  · have : D = [] := List.eq_nil_of_length_eq_zero (by omega)
    subst this
    simp [dfCM] at hu
theorem own_defS {w : World} {B : Nat} {e : TypeId} {A : Option Addr} {n cp : Nat} {D : List Df} (hn : n = D.length) (ho : w.ownsRow B e 4 (.slice A n cp) n (dfCM D)) : DefS w A D := fun h0 => by
  obtain ⟨g, e1, hg, hc⟩ := own_flat (c := cDfM) (s := 4) (fun _ => rfl) Df.zero ho hn h0
  refine ⟨g, 0, e1, hg, fun k hk => ⟨hc k hk 0 (by omega), hc k hk 1 (by omega), hc k hk 2 (by omega), hc k hk 3 (by omega)⟩⟩
theorem inS_news {w : World} {A : Option Addr} {l : List Ins} (h : InsS w A l) : ∀ a, A = some a → ∀ j u, (inC l)[j]? = some u → w.cell? (a.add j) = some u := by
  intro a ha j u hu
  by_cases h0 : 0 < l.length
  · obtain ⟨g, o, e, _, hc⟩ := h h0
    subst e
    cases ha
    refine flat_news (c := cI) (s := 5) (fun _ => rfl) (by omega) Ins.zero (fun k hk r hr => ?_) j u hu
    obtain ⟨c0, c1, c2, c3, c4⟩ := hc k hk
    have hr' : r = 0 ∨ r = 1 ∨ r = 2 ∨ r = 3 ∨ r = 4 := by omega
    rcases hr' with rfl | rfl | rfl | rfl | rfl
    · exact c0
    · exact c1
    · exact c2
    · exact c3
    · exact c4
  · have : l = [] := List.eq_nil_of_length_eq_zero (by omega)
    subst this
    simp [inC] at hu
theorem nuS_news {w : World} {A : Option Addr} {b : List Int} (h : NumS w A b) : ∀ a, A = some a → ∀ j u, (nuC b)[j]? = some u → w.cell? (a.add j) = some u := by
  intro a ha j u hu
  have hj : j < b.length := by
    rcases Nat.lt_or_ge j b.length with k | k
    · exact k
    · rw [List.getElem?_eq_none (by rw [nuC_len]; exact k)] at hu; cases hu
  obtain ⟨g, o, e, _, hc⟩ := h (by omega)
  subst e
  cases ha
  have hadd : (⟨g, o, none⟩ : Addr).add j = ⟨g, o + j, none⟩ := by unfold Addr.add; split <;> simp_all
  rw [hadd, hc j hj, ← hu, nuC_at b hj]
structure PartsS (B : Nat) (l : List Ins) (D : List Df) (dr : List Int) (a1 a2 a3 : Option Addr) (c1 c2 c3 : Nat) (w : World) : Prop where
  l : w.ownsRow B 63 5 (.slice a1 l.length c1) l.length (inC l)
  d : w.ownsRow B 74 4 (.slice a2 D.length c2) D.length (dfCM D)
  r : w.ownsRow B 42 1 (.slice a3 dr.length c3) dr.length (nuC dr)
theorem own_caps {w : World} {base size n c : Nat} {e : TypeId} {A : Option Addr} {xs : List Value} (h : w.ownsRow base e size (.slice A n c) n xs) : n ≤ c ∧ c ≤ maxLen := by
  obtain ⟨_, _, e1, h1, h2⟩ := own_slice h
  cases e1
  exact ⟨h1, h2⟩
theorem sysX_make {w : World} {gt gm B : Nat} {l : List Ins} {D : List Df} {dr : List Int} {T : TT} {M : PM} {a1 a2 a3 : Option Addr} {c1 c2 c3 : Nat} {H : Nat → Prop}
    (h : (sysT gt gm T M).R w H) (hH : ∀ x, H x → x < B) (p : PartsS B l D dr a1 a2 a3 c1 c2 c3 w) (hok : (m0 l D T M dr).ok) :
    ∃ F, (sysX w.heap.size (m0 l D T M dr)).R (w.alloc (.cells (xC ⟨a1, c1, a2, c2, gm, gt, a3, c3, .slice none 0 0, []⟩ (m0 l D T M dr)).toArray 80)) F ∧ ∀ x, F x → H x ∨ B ≤ x ∨ w.heap.size ≤ x := by
  have b := below_alloc (Below.refl w.heap.size w) (.cells (xC ⟨a1, c1, a2, c2, gm, gt, a3, c3, .slice none 0 0, []⟩ (m0 l D T M dr)).toArray 80)
  have hlt : ∀ {e size n v xs}, w.ownsRow B e size v n xs → ∀ x, v.ownBlock = some x → B ≤ x ∧ x < w.heap.size := fun ho x hx => ho.lt x hx
  generalize hK : (fun x : Nat => (Value.slice a1 l.length c1).ownBlock = some x ∨ (Value.slice a2 D.length c2).ownBlock = some x ∨ (Value.slice a3 dr.length c3).ownBlock = some x) = K
  have hK1 : ∀ x, K x → B ≤ x ∧ x < w.heap.size := fun x hx => by
    rw [← hK] at hx
    rcases hx with c | c | c
    · exact hlt p.l x c
    · exact hlt p.d x c
    · exact hlt p.r x c
  refine ⟨fun x => x = w.heap.size ∨ (H x ∨ (K x ∨ False)), ⟨hok, ⟨a1, c1, a2, c2, gm, gt, a3, c3, .slice none 0 0, []⟩, ⟨own_caps p.l, own_caps p.d, own_caps p.r, fun k hk => absurd hk (by simp), rfl⟩, ?_⟩, fun x hx => ?_⟩
  · refine ⟨fun x => x = w.heap.size, fun x => H x ∨ (K x ∨ False), ⟨Blk.new w _ _ rfl, fun x => Iff.rfl⟩, ⟨H, fun x => K x ∨ False, (sysT gt gm T M).after h b, ⟨K, fun x => False, ⟨fun x hx => ?_, fun w' hw => ?_⟩, ⟨World.ownsRow_nil _ _ _ _, fun x => ⟨fun c => c.elim, fun c => by cases c⟩⟩, fun x _ c => c, fun x => Iff.rfl⟩, fun x hx c => ?_, fun x => Iff.rfl⟩, fun x hx c => ?_, fun x => Iff.rfl⟩
    · exact Nat.lt_of_lt_of_le (hK1 x hx).2 b.size
    · have q : ∀ x, K x → w'.heap[x]? = w.heap[x]? := fun x hx => (hw x hx).trans (b.block x (hK1 x hx).2)
      refine ⟨own_insS rfl (own_same p.l fun x hx => q x (by rw [← hK]; exact .inl hx)), own_defS rfl (own_same p.d fun x hx => q x (by rw [← hK]; exact .inr (.inl hx))), own_numS rfl (own_same p.r fun x hx => q x (by rw [← hK]; exact .inr (.inr hx))), fun k hk => absurd hk (by simp)⟩
    · rcases c with c | c
      · have := hH x hx; have := (hK1 x c).1; omega
      · exact c
    · subst hx
      rcases c with c | c | c
      · have := (sysT gt gm T M).lt h c; omega
      · have := (hK1 _ c).2; omega
      · exact c
  · rcases hx with c | c | c | c
    · exact .inr (.inr (by omega))
    · exact .inl c
    · exact .inr (.inl (hK1 x c).1)
    · exact c.elim
end Go.Proofs.YtlbhffdpklbhfaaGreat
namespace Go.Proofs.YtlbhffdpklbhfaaGreat
open Go.RowKit
set_option linter.unusedVariables false
abbrev boolCells (l : List Bool) : Array Value := (l.map fun x => Value.bool x).toArray
def bB (g : Nat) (l : List Bool) (w : World) : Prop := Blk g (boolCells l) 4 w
theorem bB.lt {g : Nat} {l : List Bool} {w : World} (h : bB g l w) : g < w.heap.size := Blk.lt h
theorem bB.after {g : Nat} {l : List Bool} {w w' : World} (h : bB g l w) (b : Below w.heap.size w w') : bB g l w' := Blk.after h b
theorem boolCells_at (l : List Bool) {k : Nat} {b : Bool} (h : l[k]? = some b) : (boolCells l)[k]? = some (.bool b) := by
  simp [boolCells, h]
theorem bB.cell {g : Nat} {l : List Bool} {w : World} (h : bB g l w) {k : Nat} {b : Bool} (hk : l[k]? = some b) : w.cell? ⟨g, k, none⟩ = some (.bool b) := (Blk.cell h k).trans (boolCells_at l hk)
theorem bB.free {g : Nat} {l : List Bool} {w : World} (h : bB g l w) (k : Nat) : w.frozen? ⟨g, k, none⟩ = false := Blk.free h k
theorem bB.set {g : Nat} {l : List Bool} {w : World} (h : bB g l w) (k : Nat) (b : Bool) : bB g (l.set k b) (w.setCell ⟨g, k, none⟩ (.bool b)) := by
  have hs := Blk.set h k (.bool b)
  have e : (boolCells l).setIfInBounds k (.bool b) = boolCells (l.set k b) := by
    simp [boolCells, List.setIfInBounds_toArray, List.map_set]
  rw [e] at hs
  exact hs
theorem bB.new (w : World) (l : List Bool) {g : Nat} (hg : g = w.heap.size) : bB g l (w.alloc (.cells (boolCells l) 4)) := Blk.new w _ _ hg
def RowOf (l : List Bool) (w : World) (e : Ending) (w' : World) : Prop :=
  ∃ g, e = .returned (.slice (some ⟨g, 0, none⟩) l.length l.length) ∧ w.heap.size ≤ g ∧ bB g l w' ∧ Below w.heap.size w w'
end Go.Proofs.YtlbhffdpklbhfaaGreat
