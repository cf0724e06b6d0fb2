/-
  Texts, one behind the other: Tab6.
  Conditions: those that each theorem states.
-/
import Derived.StillTailTactics
import Derived.Test.YtlbhffdpklbhfaaGreatPz9
import Derived.Test.YtlbhffdpklbhfaaGreatPz12
import Derived.Test.YtlbhffdpklbhfaaGreatPz6
namespace Go.Proofs.YtlbhffdpklbhfaaGreat
open Go.RowKit
set_option maxRecDepth 100000
set_option linter.unusedVariables false
set_option linter.unusedSimpArgs false
structure RawD (w : World) (gt gm : Nat) (vl : Value) (L : List TR) (M : PM) (F G : Nat → Prop) : Prop where
  maps : RepV w gt gm vl L F
  mem : RepP w gm M G
  apart : ∀ x, F x → ¬ G x
theorem RawD.after {w u : World} {gt gm : Nat} {vl : Value} {L : List TR} {M : PM} {F G : Nat → Prop} (h : RawD w gt gm vl L M F G) (b : Below w.heap.size w u) : RawD u gt gm vl L M F G := ⟨h.maps.after b, h.mem.after b, h.apart⟩
structure RawN (w : World) (gt gm : Nat) (vl : Value) (L : List TR) (M : PM) (F G : Nat → Prop) (u : World) (F' G' : Nat → Prop) : Prop where
  rep : RawD u gt gm vl L M F' G'
  turn : Turn (fun x => F x ∨ G x) w u
  footF : ∀ x, F' x → F x ∨ w.heap.size ≤ x
  footG : ∀ x, G' x → G x ∨ w.heap.size ≤ x
theorem RawN.after {w u u' : World} {gt gm : Nat} {vl : Value} {L : List TR} {M : PM} {F G F' G' : Nat → Prop} (h : RawN w gt gm vl L M F G u F' G') (b : Below u.heap.size u u') : RawN w gt gm vl L M F G u' F' G' := ⟨h.rep.after b, h.turn.next b, h.footF, h.footG⟩
theorem RawN.mem {w u u' : World} {gt gm : Nat} {vl : Value} {L : List TR} {M M' : PM} {F G F' G' : Nat → Prop} {v : Value} {e : Ending} (h : RawN w gt gm vl L M F G u F' G') (hw : MemW RepP gm G' M' v u e u') : e = .returned v ∧ ∃ G2, RawN w gt gm vl L M' F G u' F' G2 := by
  obtain ⟨he, G2, r, t, hG⟩ := hw
  have hs := h.turn.size
  refine ⟨he, G2, ⟨h.rep.maps.turn t (fun x hF hG => h.rep.apart x hF hG), r, fun x hx hG2 => ?_⟩, h.turn.trans t (fun x hx => ?_), h.footF, fun x hx => ?_⟩
  · rcases hG x hG2 with c | c
    · exact h.rep.apart x hx c
    · have := h.rep.maps.lt hx; omega
  · rcases h.footG x hx with c | c
    · exact .inl (.inr c)
    · exact .inr c
  · rcases hG x hx with c | c
    · exact h.footG x c
    · exact .inr (by omega)
def AddW (gt gm : Nat) (vl : Value) (F G : Nat → Prop) (L : List TR) (M : PM) (v : Value) (w : World) (e : Ending) (w' : World) : Prop :=
  e = .returned v ∧ ∃ F' G', RawN w gt gm vl L M F G w' F' G'
theorem trC_self {L : List TR} {k : Nat} (hk : k < L.length) {v : Value} (hv : (trAt L k).v = v) : (trC L).set (k * 6 + 4) v = trC L := by
  apply List.ext_getElem?
  intro j
  rw [List.getElem?_set]
  by_cases e : k * 6 + 4 = j
  · rw [if_pos e, if_pos (by rw [trC_len]; omega), ← e, trC_at L k 4 hk (by omega), ← hv]; rfl
  · rw [if_neg e]
theorem add_done {w u u6 : World} {gt gm gl k mb md c : Nat} {vl : Value} {L : List TR} {F G F' G' : Nat → Prop} {M : PM} {key : List Int} (q : RawN w gt gm vl L M F G u F' G') (hk : k < L.length) (hvl : vl = .slice (some ⟨gl, 0, none⟩) L.length c) (hmb : (trAt L k).v = .map (some mb)) (hmd : (trAt L k).m.made = md) (hK : KOk (trAt L k).m.L) (hx : tFind (trAt L k).m.L key = none) (hob : OkB key)
    (hm : MapIs Tryz.prog 9 u6 mb ((trAt L k).m.L.length + 1) (putM (strM (trAt L k).m.L) (kLit key) (some (.int .i64 (md : Int))))) (hg : u.grownBy u6 (some mb)) :
    (u6.cell? ⟨gl, k * 6 + 5, none⟩ = some (.int .i64 (md : Int)) ∧ u6.frozen? ⟨gl, k * 6 + 5, none⟩ = false) ∧
    AddW gt gm vl F G (L.set k ⟨⟨(trAt L k).m.d, tIns (trAt L k).m.L ⟨key, md⟩, md + 1⟩, .map (some mb)⟩) M (.bool true) w (.returned (.bool true)) (u6.setCell ⟨gl, k * 6 + 5, none⟩ (.int .i64 ((md : Int) + 1))) := by
  have hgl : F' gl := q.rep.maps.foot1 (by rw [hvl]; rfl)
  have hFb : F' mb := q.rep.maps.footK (k := k) (by rw [hmb]; rfl)
  have hbr : gl ≠ mb := fun e => by
    have := q.rep.maps.apart 1 (k + 2) mb (by rw [hvl, e]; rfl) (by rw [qBlk_k, hmb]; rfl)
    omega
  have hs6 : ∀ x, x < u.heap.size → x ≠ mb → u6.heap[x]? = u.heap[x]? := fun x hx hne => hg.block x hx (by simpa using hne)
  have hrow6 : u6.ownsRow 0 117 6 vl L.length (trC L) := own_same q.rep.maps.row (fun x hx => hs6 x (own_lt q.rep.maps.row hx) (fun e => hbr (by rw [hvl] at hx; rw [← e]; exact Option.some.inj hx)))
  have un : ∀ x, x ≠ gl → (u6.setCell ⟨gl, k * 6 + 5, none⟩ (.int .i64 ((md : Int) + 1))).heap[x]? = u6.heap[x]? := fun x hx => Below.heap_setCell _ ⟨gl, k * 6 + 5, none⟩ _ _ hx
  have hr6 := hrow6
  rw [hvl] at hr6
  have hc6 : u6.cell? ⟨gl, k * 6 + 5, none⟩ = some (.int .i64 (md : Int)) := by
    rw [hr6.cellAt _ (by omega), trC_at L k 5 hk (by omega), ← hmd]; rfl
  have hf6 : u6.frozen? ⟨gl, k * 6 + 5, none⟩ = false := hr6.frozenAt _
  refine ⟨⟨hc6, hf6⟩, rfl, ?_⟩
  obtain ⟨F2, hR, hF2⟩ := q.rep.maps.put (r := ⟨⟨(trAt L k).m.d, tIns (trAt L k).m.L ⟨key, md⟩, md + 1⟩, .map (some mb)⟩) (u := u6.setCell ⟨gl, k * 6 + 5, none⟩ (.int .i64 ((md : Int) + 1))) hk
    (fun x hx h1 h2 => (un x (fun e => h1 (by rw [hvl, e]; rfl))).trans (hs6 x (q.rep.maps.lt hx) (fun e => h2 (by rw [hmb, e]; rfl))))
    (by
      rw [trC_set5 hk, trC_self hk hmb, hvl]
      exact (hr6.stored (k * 6 + 5) (.int .i64 ((md + 1 : Nat) : Int))).1)
    (by
      refine .inr ⟨mb, rfl, ?_⟩
      have h1 : MapIs Tryz.prog 9 (u6.setCell ⟨gl, k * 6 + 5, none⟩ (.int .i64 ((md : Int) + 1))) mb ((trAt L k).m.L.length + 1) (putM (strM (trAt L k).m.L) (kLit key) (some (.int .i64 (md : Int)))) := hm.same (un mb (fun e => hbr e.symm))
      rw [tIns_len]
      exact h1.eq fun kl _ => str_put (x := ⟨key, md⟩) hK.byt hob hx kl)
    (.inl hmb.symm)
  have hsz : u.heap.size ≤ u6.heap.size := hg.size
  have hG1 : ∀ x, G' x → x < u.heap.size := fun x hx => q.rep.mem.lt hx
  have hws := q.turn.size
  refine ⟨F2, G', ⟨hR, ?_, fun x hx hg2 => ?_⟩, ?_, fun x hx => ?_, q.footG⟩
  · obtain ⟨vm, LM, e, hmm⟩ := q.rep.mem
    exact ⟨vm, LM, e, hmm.keep fun x hx => (un x (fun e => q.rep.apart gl hgl (by rw [← e]; exact hx))).trans (hs6 x (hmm.lt hx) (fun e => q.rep.apart mb hFb (by rw [← e]; exact hx)))⟩
  · rcases hF2 x hx with c | c
    · exact q.rep.apart x c hg2
    · have := hG1 x hg2; omega
  · refine (q.turn.trans (G := F') ?_ (fun x hx => ?_))
    · exact (Turn.setCell (Turn.mono (G := F') (F := fun x => x = mb) ⟨hg.os, hg.tape, hg.output, hg.size, fun x hx hne => hg.block x hx (by simpa using hne)⟩ (fun x hx => .inl (by rw [hx]; exact hFb))) (p := ⟨gl, k * 6 + 5, none⟩) (.inl hgl) _)
    · rcases q.footF x hx with c | c
      · exact .inl (.inl c)
      · exact .inr c
  · rcases hF2 x hx with c | c
    · exact q.footF x c
    · exact .inr (by omega)
set_option maxHeartbeats 4000000 in
theorem q9_add (w : World) (gt gm : Nat) (vl : Value) (L : List TR) (M : PM) (F G : Nat → Prop) (k : Nat) (key val : List Int) (B C : Option Addr) (n d m c : Nat) (h : RawD w gt gm vl L M F G) (hk : k < L.length) (hk1 : L.length ≤ 1000) (mb : Nat) (hmb : (trAt L k).v = .map (some mb)) (hK : KOk (trAt L k).m.L) (hkey : tFind (trAt L k).m.L key = none)
    (hKl : (trAt L k).m.L.length ≤ 1000) (hmade : (trAt L k).m.made ≤ 1024) (hb : Keep (fun x => F x ∨ G x) w B key) (hob : OkB key) (hn : key.length = n) (hnd : n ≤ d) (hdm : d ≤ maxLen) (hv : Keep (fun x => F x ∨ G x) w C val) (hov : OkB val) (hvn : val.length = m) (hmc : m ≤ c) (hcm : c ≤ maxLen) (hM : M.length ≤ 100000) :
    Calls Tryz.prog 95 #[.pointer (some ⟨gt, 0, none⟩), .int .i64 (k : Int), .slice B n d, .slice C m c] w
      (if (trAt L k).m.made = 1024 then AddW gt gm vl F G L M (.bool false) w
       else if (pMake M (tArea k (trAt L k).m.made) val false false).2 = 0 then AddW gt gm vl F G (L.set k ⟨⟨(trAt L k).m.d, tIns (trAt L k).m.L ⟨key, (trAt L k).m.made⟩, (trAt L k).m.made + 1⟩, .map (some mb)⟩) (pMake M (tArea k (trAt L k).m.made) val false false).1 (.bool true) w
       else AddW gt gm vl F G L M (.bool false) w) := by
  obtain ⟨gl, cl, hvl, k1, k2, hg, e0, e1, e2, e3, e4, e5⟩ := h.maps.at_ hk
  obtain ⟨c0, c1⟩ := h.maps.cells
  rw [hvl] at c1
  unfold maxLen at k2
  have k0 : (0 : Int) ≤ k := by omega
  have k3 : (k : Int) < L.length := by omega
  by_cases hmd : (trAt L k).m.made = 1024
  · rw [if_pos hmd]
    have e6 : w.cell? ⟨gl, k * 6 + 5, none⟩ = some (.int .i64 1024) := by rw [e5, hmd]; rfl
    have HH := Lib.hid h
    clear h hb hv hkey hK hvl e0 e1 e2 e3 e4 hmade e5
    go_enter Tryz.func95, Tryz.ntmps95
    go_upto_region 2 with fail
    go_quiet (fail)
    go_wp2_with fail
    go_ret
    exact ⟨rfl, F, G, RawN.after (u := w) ⟨HH.out, Turn.refl _ _, fun x hx => .inl hx, fun x hx => .inl hx⟩ (by first | exact below_drewN (Below.refl _ _) _ | exact Below.drew (Below.refl _ _))⟩
  · rw [if_neg hmd]
    have hi0 : 0 ≤ tArea k (trAt L k).m.made ∧ tArea k (trAt L k).m.made ≤ 10000000 := by unfold tArea; omega
    have HFB := Lib.hid hvl
    have AR : Hid (∀ u, Calls Tryz.prog 98 #[.int .i64 (k : Int), .int .i64 ((trAt L k).m.made : Int)] u (Gives (.int .i64 (tArea k (trAt L k).m.made)) u)) := Lib.hid fun u => q9_Area k (trAt L k).m.made u (by omega) (by omega)
    have Q : Hid (RawN w gt gm vl L M F G w F G) := Lib.hid ⟨h, Turn.refl _ _, fun x hx => .inl hx, fun x hx => .inl hx⟩
    have HS : Hid (∀ M' u F' G', RawN w gt gm vl L M' F G u F' G' → u.cell? ⟨gt, 0, none⟩ = some (.pointer (some ⟨gm, 0, none⟩)) ∧ u.cell? ⟨gl, k * 6 + 5, none⟩ = some (.int .i64 ((trAt L k).m.made : Int)) ∧ u.cell? ⟨gl, k * 6 + 4, none⟩ = some (.map (some mb))) := Lib.hid fun M' u F' G' q => by
      obtain ⟨gl', c', hv', _, _, _, _, _, _, _, z4, z5⟩ := q.rep.maps.at_ hk
      rw [hvl] at hv'
      cases hv'
      exact ⟨q.rep.maps.cells.1, z5, by rw [z4, hmb]⟩
    have MK : Hid (∀ u F' G', RawN w gt gm vl L M F G u F' G' → Calls Tryz.prog 48 #[.pointer (some ⟨gm, 0, none⟩), .int .i64 (tArea k (trAt L k).m.made), .slice C m c, .bool false, .bool false] u (fun e u' => e = .returned (.int .i64 (pMake M (tArea k (trAt L k).m.made) val false false).2) ∧ ∃ G2, RawN w gt gm vl L (pMake M (tArea k (trAt L k).m.made) val false false).1 F G u' F' G2)) := Lib.hid fun u F' G' q => by
      subst hvn
      exact (c8_Make u gm M G' _ val C c false false q.rep.mem (by omega) (hv _ q.turn) hov hmc hcm hM).mono fun e u' hw => q.mem hw
    have UP : Hid (∀ M' u F' G', RawN w gt gm vl L M' F G u F' G' → ((∀ q, (convert 23 9 (.slice B n d)).run Tryz.prog (u.drewN q) = .ok (.string (strOfNums key)) (u.drewN q)) ∧ ∃ u6, (Instr.mapUpdate 115 (.map (some mb)) (.string (strOfNums key)) (.int .i64 ((trAt L k).m.made : Int))).run Tryz.prog u = .ok () u6 ∧ (u6.cell? ⟨gl, k * 6 + 5, none⟩ = some (.int .i64 ((trAt L k).m.made : Int)) ∧ u6.frozen? ⟨gl, k * 6 + 5, none⟩ = false) ∧
        AddW gt gm vl F G (L.set k ⟨⟨(trAt L k).m.d, tIns (trAt L k).m.L ⟨key, (trAt L k).m.made⟩, (trAt L k).m.made + 1⟩, .map (some mb)⟩) M' (.bool true) w (.returned (.bool true)) (u6.setCell ⟨gl, k * 6 + 5, none⟩ (.int .i64 (((trAt L k).m.made : Int) + 1))))) := Lib.hid fun M' u F' G' q => by
      refine ⟨fun j => by rw [← hn]; exact str_bytS (hb _ (q.turn.next (below_drewN (Below.refl _ _) j))) d, ?_⟩
      have hms := q.rep.maps.own k hk
      rw [hmb] at hms
      obtain ⟨u6, hr, hm6, hg6⟩ := hms.is.put strK Tryz.underlying115 (by have := hKl; unfold maxLen; omega) (keyOf_key (key := key) (by omega)) (.int .i64 ((trAt L k).m.made : Int))
      have DD := add_done q hk hvl hmb rfl hK hkey hob hm6 hg6
      exact ⟨u6, hr, DD.1, DD.2⟩
    clear h hv hb hkey hK hvl hmb e0 e1 e2 e3 hKl
    generalize tArea k (trAt L k).m.made = ar at *
    generalize (trAt L k).m.made = md at *
    generalize hE : (pMake M ar val false false).2 = er at *
    generalize hM' : (pMake M ar val false false).1 = M1 at *
    have hne : ((md : Int) == 1024) = false := by simp; omega
    by_cases he : er = 0
    · rw [if_pos he]
      subst he
      generalize L.set k ⟨⟨(trAt L k).m.d, tIns (trAt L k).m.L ⟨key, md⟩, md + 1⟩, .map (some mb)⟩ = L' at *
      clear hE hM'
      go_enter Tryz.func95, Tryz.ntmps95
      go_upto_region 2 with fail
      clear c0 c1 e4 e5
      replace Q := Lib.hid (Q.out.after (Below.drew (Below.refl _ _)))
      refine wp_region_held_drew (S := fun w' => w'.cell? ⟨gt, 0, none⟩ = some (.pointer (some ⟨gm, 0, none⟩)) ∧ w'.cell? ⟨gl, k * 6 + 5, none⟩ = some (.int .i64 (md : Int)) ∧ w'.cell? ⟨gl, k * 6 + 4, none⟩ = some (.map (some mb))) (by kernel_rfl) (HS.out _ _ _ _ Q.out) (fun hHeld => ?_)
      refine wpAnyH_take (i := 0) (oi := { dst := some 16, op := Op.move (Operand.tmp 9), type := _, pos := _, after := _, guard := none }) (v := ?_) rfl (by kernel_rfl) (by kernel_rfl) (by kernel_rfl) (fun _ _ _ h => h) (Or.inl ⟨by rfl, ?_⟩) (by assumption) ?_
      rotate_left 1
      · intro w hSw; (try dsimp only at hSw); go_simp; try (with_reducible rfl)
      try simp only [Act.put, List.setIfInBounds_toArray, List.set_cons_zero, List.set_cons_succ]
      refine wpAnyH_take (i := 1) (oi := { dst := some 17, op := Op.nilCheck (Operand.tmp 16), type := _, pos := _, after := _, guard := none }) (v := ?_) rfl (by kernel_rfl) (by kernel_rfl) (by kernel_rfl) (fun _ _ _ h => h) (Or.inl ⟨by rfl, ?_⟩) (by assumption) ?_
      rotate_left 1
      · intro w hSw; (try dsimp only at hSw); go_simp; try (with_reducible rfl)
      try simp only [Act.put, List.setIfInBounds_toArray, List.set_cons_zero, List.set_cons_succ]
      refine wpAnyH_take (i := 2) (oi := { dst := some 18, op := Op.fieldAddr 117 (Operand.tmp 17) 2, type := _, pos := _, after := _, guard := none }) (v := ?_) rfl (by kernel_rfl) (by kernel_rfl) (by kernel_rfl) (fun _ _ _ h => h) (Or.inl ⟨by rfl, ?_⟩) (by assumption) ?_
      rotate_left 1
      · intro w hSw; (try dsimp only at hSw); go_simp; try (with_reducible rfl)
      try simp only [Act.put, List.setIfInBounds_toArray, List.set_cons_zero, List.set_cons_succ]
      refine wpAnyH_take (i := 3) (oi := { dst := some 19, op := Op.load 3 (Operand.tmp 18), type := _, pos := _, after := _, guard := none }) (v := ?_) rfl (by kernel_rfl) (by kernel_rfl) (by kernel_rfl) (fun _ _ _ h => h) (Or.inl ⟨by rfl, ?_⟩) (by assumption) ?_
      rotate_left 1
      · intro w hSw; (try dsimp only at hSw); go_simp; try (with_reducible rfl)
      try simp only [Act.put, List.setIfInBounds_toArray, List.set_cons_zero, List.set_cons_succ]
      refine wpAnyH_take (i := 4) (oi := { dst := some 20, op := Op.binOp BinOp.eql 3 (Operand.tmp 19) (Operand.const (Value.int IntKind.i64 1024)) 3, type := _, pos := _, after := _, guard := none }) (v := ?_) rfl (by kernel_rfl) (by kernel_rfl) (by kernel_rfl) (fun _ _ _ h => h) (Or.inl ⟨by rfl, ?_⟩) (by assumption) ?_
      rotate_left 1
      · intro w hSw; (try dsimp only at hSw); go_simp; try (with_reducible rfl)
      try simp only [Act.put, List.setIfInBounds_toArray, List.set_cons_zero, List.set_cons_succ]
      refine wpAnyH_take (i := 5) (oi := { dst := some 21, op := Op.move (Operand.tmp 20), type := _, pos := _, after := _, guard := none }) (v := ?_) rfl (by kernel_rfl) (by kernel_rfl) (by kernel_rfl) (fun _ _ _ h => h) (Or.inl ⟨by rfl, ?_⟩) (by assumption) ?_
      rotate_left 1
      · intro w hSw; (try dsimp only at hSw); go_simp; try (with_reducible rfl)
      try simp only [Act.put, List.setIfInBounds_toArray, List.set_cons_zero, List.set_cons_succ]
      refine wpAnyH_take (i := 6) (oi := { dst := some 22, op := Op.move (Operand.tmp 0), type := _, pos := _, after := _, guard := some (5, false) }) (v := ?_) rfl (by kernel_rfl) (by kernel_rfl) (by kernel_rfl) (fun _ _ _ h => h) (Or.inl ⟨by rfl, ?_⟩) (by assumption) ?_
      rotate_left 1
      · intro w hSw; (try dsimp only at hSw); go_simp; try (with_reducible rfl)
      try simp only [Act.put, List.setIfInBounds_toArray, List.set_cons_zero, List.set_cons_succ]
      refine wpAnyH_take (i := 7) (oi := { dst := some 23, op := Op.nilCheck (Operand.tmp 22), type := _, pos := _, after := _, guard := some (5, false) }) (v := ?_) rfl (by kernel_rfl) (by kernel_rfl) (by kernel_rfl) (fun _ _ _ h => h) (Or.inl ⟨by rfl, ?_⟩) (by assumption) ?_
      rotate_left 1
      · intro w hSw; (try dsimp only at hSw); go_simp; try (with_reducible rfl)
      try simp only [Act.put, List.setIfInBounds_toArray, List.set_cons_zero, List.set_cons_succ]
      refine wpAnyH_take (i := 8) (oi := { dst := some 24, op := Op.fieldAddr 114 (Operand.tmp 23) 0, type := _, pos := _, after := _, guard := some (5, false) }) (v := ?_) rfl (by kernel_rfl) (by kernel_rfl) (by kernel_rfl) (fun _ _ _ h => h) (Or.inl ⟨by rfl, ?_⟩) (by assumption) ?_
      rotate_left 1
      · intro w hSw; (try dsimp only at hSw); go_simp; try (with_reducible rfl)
      try simp only [Act.put, List.setIfInBounds_toArray, List.set_cons_zero, List.set_cons_succ]
      refine wpAnyH_take (i := 9) (oi := { dst := some 25, op := Op.load 66 (Operand.tmp 24), type := _, pos := _, after := _, guard := some (5, false) }) (v := ?_) rfl (by kernel_rfl) (by kernel_rfl) (by kernel_rfl) (fun _ _ _ h => h) (Or.inl ⟨by rfl, ?_⟩) (by assumption) ?_
      rotate_left 1
      · intro w hSw; (try dsimp only at hSw); go_simp; try (with_reducible rfl)
      try simp only [Act.put, List.setIfInBounds_toArray, List.set_cons_zero, List.set_cons_succ]
      refine wpAnyH_take (i := 10) (oi := { dst := some 26, op := Op.move (Operand.tmp 1), type := _, pos := _, after := _, guard := some (5, false) }) (v := ?_) rfl (by kernel_rfl) (by kernel_rfl) (by kernel_rfl) (fun _ _ _ h => h) (Or.inl ⟨by rfl, ?_⟩) (by assumption) ?_
      rotate_left 1
      · intro w hSw; (try dsimp only at hSw); go_simp; try (with_reducible rfl)
      try simp only [Act.put, List.setIfInBounds_toArray, List.set_cons_zero, List.set_cons_succ]
      refine wpAnyH_take (i := 11) (oi := { dst := some 27, op := Op.move (Operand.tmp 9), type := _, pos := _, after := _, guard := some (5, false) }) (v := ?_) rfl (by kernel_rfl) (by kernel_rfl) (by kernel_rfl) (fun _ _ _ h => h) (Or.inl ⟨by rfl, ?_⟩) (by assumption) ?_
      rotate_left 1
      · intro w hSw; (try dsimp only at hSw); go_simp; try (with_reducible rfl)
      try simp only [Act.put, List.setIfInBounds_toArray, List.set_cons_zero, List.set_cons_succ]
      refine wpAnyH_take (i := 12) (oi := { dst := some 28, op := Op.nilCheck (Operand.tmp 27), type := _, pos := _, after := _, guard := some (5, false) }) (v := ?_) rfl (by kernel_rfl) (by kernel_rfl) (by kernel_rfl) (fun _ _ _ h => h) (Or.inl ⟨by rfl, ?_⟩) (by assumption) ?_
      rotate_left 1
      · intro w hSw; (try dsimp only at hSw); go_simp; try (with_reducible rfl)
      try simp only [Act.put, List.setIfInBounds_toArray, List.set_cons_zero, List.set_cons_succ]
      refine wpAnyH_take (i := 13) (oi := { dst := some 29, op := Op.fieldAddr 117 (Operand.tmp 28) 2, type := _, pos := _, after := _, guard := some (5, false) }) (v := ?_) rfl (by kernel_rfl) (by kernel_rfl) (by kernel_rfl) (fun _ _ _ h => h) (Or.inl ⟨by rfl, ?_⟩) (by assumption) ?_
      rotate_left 1
      · intro w hSw; (try dsimp only at hSw); go_simp; try (with_reducible rfl)
      try simp only [Act.put, List.setIfInBounds_toArray, List.set_cons_zero, List.set_cons_succ]
      refine wpAnyH_take (i := 14) (oi := { dst := some 30, op := Op.load 3 (Operand.tmp 29), type := _, pos := _, after := _, guard := some (5, false) }) (v := ?_) rfl (by kernel_rfl) (by kernel_rfl) (by kernel_rfl) (fun _ _ _ h => h) (Or.inl ⟨by rfl, ?_⟩) (by assumption) ?_
      rotate_left 1
      · intro w hSw; (try dsimp only at hSw); go_simp; try (with_reducible rfl)
      try simp only [Act.put, List.setIfInBounds_toArray, List.set_cons_zero, List.set_cons_succ]
      refine wpAnyH_take (i := 16) (oi := { dst := some 32, op := Op.move (Operand.tmp 3), type := _, pos := _, after := _, guard := some (5, false) }) (v := ?_) rfl (by kernel_rfl) (by kernel_rfl) (by kernel_rfl) (fun _ _ _ h => h) (Or.inl ⟨by rfl, ?_⟩) (by assumption) ?_
      rotate_left 1
      · intro w hSw; (try dsimp only at hSw); go_simp; try (with_reducible rfl)
      try simp only [Act.put, List.setIfInBounds_toArray, List.set_cons_zero, List.set_cons_succ]
      refine wpAnyH_ready (rs := [15]) (by kernel_rfl) (by simp) ?_
      refine AllReadyH.cons (o := { dst := some 31, op := Op.call { callee := Callee.value (Operand.func 98), args := #[Operand.tmp 26, Operand.tmp 30], argTypes := #[3, 3] }, type := _, pos := _, after := _, guard := some (5, false) }) rfl (fun K hK => ?_) AllReadyH.nil
      · skip
        go_simp
        refine (AR.out _).mono ?_; rintro e u1 ⟨rfl, b1⟩
        replace Q := Lib.hid (Q.out.after b1)
        clear b1
        go_wp2_with fail
        refine hK.out _ _ (HS.out _ _ _ _ Q.out) (fun hHeld => ?_)
        clear hK K
        try simp only [Act.put, List.setIfInBounds_toArray, List.set_cons_zero, List.set_cons_succ]
        refine wpAnyH_ready (rs := [17]) (by kernel_rfl) (by simp) ?_
        refine AllReadyH.cons (o := { dst := some 33, op := Op.call { callee := Callee.value (Operand.func 48), args := #[Operand.tmp 25, Operand.tmp 31, Operand.tmp 32, Operand.const (Value.bool false), Operand.const (Value.bool false)], argTypes := #[66, 3, 23, 4, 4] }, type := _, pos := _, after := _, guard := some (5, false) }) rfl (fun K hK => ?_) AllReadyH.nil
        · skip
          go_simp
          refine (MK.out _ _ _ Q.out).mono ?_; rintro e u3 ⟨rfl, G2, q3⟩
          have Q3 := Lib.hid q3
          clear q3 hHeld
          have hHeld := HS.out _ _ _ _ Q3.out
          go_wp2_with fail
          refine hK.out _ _ (HS.out _ _ _ _ Q3.out) (fun hHeld => ?_)
          clear hK K
          try simp only [Act.put, List.setIfInBounds_toArray, List.set_cons_zero, List.set_cons_succ]
          refine wpAnyH_take (i := 18) (oi := { dst := some 34, op := Op.binOp BinOp.neq 32 (Operand.tmp 33) (Operand.const (Value.int IntKind.i64 0)) 32, type := _, pos := _, after := _, guard := some (5, false) }) (v := ?_) rfl (by kernel_rfl) (by kernel_rfl) (by kernel_rfl) (fun _ _ _ h => h) (Or.inl ⟨by rfl, ?_⟩) (by assumption) ?_
          rotate_left 1
          · intro w hSw; (try dsimp only at hSw); go_simp; try (with_reducible rfl)
          try simp only [Act.put, List.setIfInBounds_toArray, List.set_cons_zero, List.set_cons_succ]
          refine wpAnyH_take (i := 19) (oi := { dst := some 35, op := Op.pick (Operand.tmp 21) (Operand.const (Value.bool true)) (Operand.tmp 34), type := _, pos := _, after := _, guard := none }) (v := ?_) rfl (by kernel_rfl) (by kernel_rfl) (by kernel_rfl) (fun _ _ _ h => h) (Or.inl ⟨by rfl, ?_⟩) (by assumption) ?_
          rotate_left 1
          · intro w hSw; (try dsimp only at hSw); go_simp; try (with_reducible rfl)
          try simp only [Act.put, List.setIfInBounds_toArray, List.set_cons_zero, List.set_cons_succ]
          refine wpAnyH_done (by kernel_rfl) ?_ _
          clear AR MK
          obtain ⟨s0, s5, s4⟩ := HS.out _ _ _ _ Q3.out
          obtain ⟨ST, -⟩ := UP.out _ _ _ _ Q3.out
          have ST0 := ST 0
          have ST1 := ST 1
          rw [show u3.drewN 0 = u3 from rfl] at ST0
          rw [show u3.drewN 1 = u3.drew from rfl] at ST1
          clear hHeld HS
          go_wp2_with fail
          go_still_tail 10, (by kernel_rfl)
          change wpList _ _ _ _ _ u3.drew
          have Q4 := Lib.hid (Q3.out.after (Below.drew (Below.refl _ _)))
          obtain ⟨-, u6, hrun, ⟨k6, f6⟩, DN⟩ := UP.out _ _ _ _ Q4.out
          replace DN := Lib.hid DN
          clear Q3 Q4 UP ST ST0 ST1 s0 s4 s5
          generalize u3.drew = u4 at *
          go_wp2_with fail
          go_ret
          exact DN.out
    · rw [if_neg he]
      have hMM : M1 = M := by rw [← hM']; exact pMake_err _ _ _ _ _ (by rw [hE]; exact he)
      subst hMM
      have he2 : (er != 0) = true := by simpa using he
      clear UP hE hM' he
      go_enter Tryz.func95, Tryz.ntmps95
      go_upto_region 2 with fail
      clear c0 c1 e4 e5
      replace Q := Lib.hid (Q.out.after (Below.drew (Below.refl _ _)))
      refine wp_region_held_drew (S := fun w' => w'.cell? ⟨gt, 0, none⟩ = some (.pointer (some ⟨gm, 0, none⟩)) ∧ w'.cell? ⟨gl, k * 6 + 5, none⟩ = some (.int .i64 (md : Int)) ∧ w'.cell? ⟨gl, k * 6 + 4, none⟩ = some (.map (some mb))) (by kernel_rfl) (HS.out _ _ _ _ Q.out) (fun hHeld => ?_)
      refine wpAnyH_take (i := 0) (oi := { dst := some 16, op := Op.move (Operand.tmp 9), type := _, pos := _, after := _, guard := none }) (v := ?_) rfl (by kernel_rfl) (by kernel_rfl) (by kernel_rfl) (fun _ _ _ h => h) (Or.inl ⟨by rfl, ?_⟩) (by assumption) ?_
      rotate_left 1
      · intro w hSw; (try dsimp only at hSw); go_simp; try (with_reducible rfl)
      try simp only [Act.put, List.setIfInBounds_toArray, List.set_cons_zero, List.set_cons_succ]
      refine wpAnyH_take (i := 1) (oi := { dst := some 17, op := Op.nilCheck (Operand.tmp 16), type := _, pos := _, after := _, guard := none }) (v := ?_) rfl (by kernel_rfl) (by kernel_rfl) (by kernel_rfl) (fun _ _ _ h => h) (Or.inl ⟨by rfl, ?_⟩) (by assumption) ?_
      rotate_left 1
      · intro w hSw; (try dsimp only at hSw); go_simp; try (with_reducible rfl)
      try simp only [Act.put, List.setIfInBounds_toArray, List.set_cons_zero, List.set_cons_succ]
      refine wpAnyH_take (i := 2) (oi := { dst := some 18, op := Op.fieldAddr 117 (Operand.tmp 17) 2, type := _, pos := _, after := _, guard := none }) (v := ?_) rfl (by kernel_rfl) (by kernel_rfl) (by kernel_rfl) (fun _ _ _ h => h) (Or.inl ⟨by rfl, ?_⟩) (by assumption) ?_
      rotate_left 1
      · intro w hSw; (try dsimp only at hSw); go_simp; try (with_reducible rfl)
      try simp only [Act.put, List.setIfInBounds_toArray, List.set_cons_zero, List.set_cons_succ]
      refine wpAnyH_take (i := 3) (oi := { dst := some 19, op := Op.load 3 (Operand.tmp 18), type := _, pos := _, after := _, guard := none }) (v := ?_) rfl (by kernel_rfl) (by kernel_rfl) (by kernel_rfl) (fun _ _ _ h => h) (Or.inl ⟨by rfl, ?_⟩) (by assumption) ?_
      rotate_left 1
      · intro w hSw; (try dsimp only at hSw); go_simp; try (with_reducible rfl)
      try simp only [Act.put, List.setIfInBounds_toArray, List.set_cons_zero, List.set_cons_succ]
      refine wpAnyH_take (i := 4) (oi := { dst := some 20, op := Op.binOp BinOp.eql 3 (Operand.tmp 19) (Operand.const (Value.int IntKind.i64 1024)) 3, type := _, pos := _, after := _, guard := none }) (v := ?_) rfl (by kernel_rfl) (by kernel_rfl) (by kernel_rfl) (fun _ _ _ h => h) (Or.inl ⟨by rfl, ?_⟩) (by assumption) ?_
      rotate_left 1
      · intro w hSw; (try dsimp only at hSw); go_simp; try (with_reducible rfl)
      try simp only [Act.put, List.setIfInBounds_toArray, List.set_cons_zero, List.set_cons_succ]
      refine wpAnyH_take (i := 5) (oi := { dst := some 21, op := Op.move (Operand.tmp 20), type := _, pos := _, after := _, guard := none }) (v := ?_) rfl (by kernel_rfl) (by kernel_rfl) (by kernel_rfl) (fun _ _ _ h => h) (Or.inl ⟨by rfl, ?_⟩) (by assumption) ?_
      rotate_left 1
      · intro w hSw; (try dsimp only at hSw); go_simp; try (with_reducible rfl)
      try simp only [Act.put, List.setIfInBounds_toArray, List.set_cons_zero, List.set_cons_succ]
      refine wpAnyH_take (i := 6) (oi := { dst := some 22, op := Op.move (Operand.tmp 0), type := _, pos := _, after := _, guard := some (5, false) }) (v := ?_) rfl (by kernel_rfl) (by kernel_rfl) (by kernel_rfl) (fun _ _ _ h => h) (Or.inl ⟨by rfl, ?_⟩) (by assumption) ?_
      rotate_left 1
      · intro w hSw; (try dsimp only at hSw); go_simp; try (with_reducible rfl)
      try simp only [Act.put, List.setIfInBounds_toArray, List.set_cons_zero, List.set_cons_succ]
      refine wpAnyH_take (i := 7) (oi := { dst := some 23, op := Op.nilCheck (Operand.tmp 22), type := _, pos := _, after := _, guard := some (5, false) }) (v := ?_) rfl (by kernel_rfl) (by kernel_rfl) (by kernel_rfl) (fun _ _ _ h => h) (Or.inl ⟨by rfl, ?_⟩) (by assumption) ?_
      rotate_left 1
      · intro w hSw; (try dsimp only at hSw); go_simp; try (with_reducible rfl)
      try simp only [Act.put, List.setIfInBounds_toArray, List.set_cons_zero, List.set_cons_succ]
      refine wpAnyH_take (i := 8) (oi := { dst := some 24, op := Op.fieldAddr 114 (Operand.tmp 23) 0, type := _, pos := _, after := _, guard := some (5, false) }) (v := ?_) rfl (by kernel_rfl) (by kernel_rfl) (by kernel_rfl) (fun _ _ _ h => h) (Or.inl ⟨by rfl, ?_⟩) (by assumption) ?_
      rotate_left 1
      · intro w hSw; (try dsimp only at hSw); go_simp; try (with_reducible rfl)
      try simp only [Act.put, List.setIfInBounds_toArray, List.set_cons_zero, List.set_cons_succ]
      refine wpAnyH_take (i := 9) (oi := { dst := some 25, op := Op.load 66 (Operand.tmp 24), type := _, pos := _, after := _, guard := some (5, false) }) (v := ?_) rfl (by kernel_rfl) (by kernel_rfl) (by kernel_rfl) (fun _ _ _ h => h) (Or.inl ⟨by rfl, ?_⟩) (by assumption) ?_
      rotate_left 1
      · intro w hSw; (try dsimp only at hSw); go_simp; try (with_reducible rfl)
      try simp only [Act.put, List.setIfInBounds_toArray, List.set_cons_zero, List.set_cons_succ]
      refine wpAnyH_take (i := 10) (oi := { dst := some 26, op := Op.move (Operand.tmp 1), type := _, pos := _, after := _, guard := some (5, false) }) (v := ?_) rfl (by kernel_rfl) (by kernel_rfl) (by kernel_rfl) (fun _ _ _ h => h) (Or.inl ⟨by rfl, ?_⟩) (by assumption) ?_
      rotate_left 1
      · intro w hSw; (try dsimp only at hSw); go_simp; try (with_reducible rfl)
      try simp only [Act.put, List.setIfInBounds_toArray, List.set_cons_zero, List.set_cons_succ]
      refine wpAnyH_take (i := 11) (oi := { dst := some 27, op := Op.move (Operand.tmp 9), type := _, pos := _, after := _, guard := some (5, false) }) (v := ?_) rfl (by kernel_rfl) (by kernel_rfl) (by kernel_rfl) (fun _ _ _ h => h) (Or.inl ⟨by rfl, ?_⟩) (by assumption) ?_
      rotate_left 1
      · intro w hSw; (try dsimp only at hSw); go_simp; try (with_reducible rfl)
      try simp only [Act.put, List.setIfInBounds_toArray, List.set_cons_zero, List.set_cons_succ]
      refine wpAnyH_take (i := 12) (oi := { dst := some 28, op := Op.nilCheck (Operand.tmp 27), type := _, pos := _, after := _, guard := some (5, false) }) (v := ?_) rfl (by kernel_rfl) (by kernel_rfl) (by kernel_rfl) (fun _ _ _ h => h) (Or.inl ⟨by rfl, ?_⟩) (by assumption) ?_
      rotate_left 1
      · intro w hSw; (try dsimp only at hSw); go_simp; try (with_reducible rfl)
      try simp only [Act.put, List.setIfInBounds_toArray, List.set_cons_zero, List.set_cons_succ]
      refine wpAnyH_take (i := 13) (oi := { dst := some 29, op := Op.fieldAddr 117 (Operand.tmp 28) 2, type := _, pos := _, after := _, guard := some (5, false) }) (v := ?_) rfl (by kernel_rfl) (by kernel_rfl) (by kernel_rfl) (fun _ _ _ h => h) (Or.inl ⟨by rfl, ?_⟩) (by assumption) ?_
      rotate_left 1
      · intro w hSw; (try dsimp only at hSw); go_simp; try (with_reducible rfl)
      try simp only [Act.put, List.setIfInBounds_toArray, List.set_cons_zero, List.set_cons_succ]
      refine wpAnyH_take (i := 14) (oi := { dst := some 30, op := Op.load 3 (Operand.tmp 29), type := _, pos := _, after := _, guard := some (5, false) }) (v := ?_) rfl (by kernel_rfl) (by kernel_rfl) (by kernel_rfl) (fun _ _ _ h => h) (Or.inl ⟨by rfl, ?_⟩) (by assumption) ?_
      rotate_left 1
      · intro w hSw; (try dsimp only at hSw); go_simp; try (with_reducible rfl)
      try simp only [Act.put, List.setIfInBounds_toArray, List.set_cons_zero, List.set_cons_succ]
      refine wpAnyH_take (i := 16) (oi := { dst := some 32, op := Op.move (Operand.tmp 3), type := _, pos := _, after := _, guard := some (5, false) }) (v := ?_) rfl (by kernel_rfl) (by kernel_rfl) (by kernel_rfl) (fun _ _ _ h => h) (Or.inl ⟨by rfl, ?_⟩) (by assumption) ?_
      rotate_left 1
      · intro w hSw; (try dsimp only at hSw); go_simp; try (with_reducible rfl)
      try simp only [Act.put, List.setIfInBounds_toArray, List.set_cons_zero, List.set_cons_succ]
      refine wpAnyH_ready (rs := [15]) (by kernel_rfl) (by simp) ?_
      refine AllReadyH.cons (o := { dst := some 31, op := Op.call { callee := Callee.value (Operand.func 98), args := #[Operand.tmp 26, Operand.tmp 30], argTypes := #[3, 3] }, type := _, pos := _, after := _, guard := some (5, false) }) rfl (fun K hK => ?_) AllReadyH.nil
      · skip
        go_simp
        refine (AR.out _).mono ?_; rintro e u1 ⟨rfl, b1⟩
        replace Q := Lib.hid (Q.out.after b1)
        clear b1
        go_wp2_with fail
        refine hK.out _ _ (HS.out _ _ _ _ Q.out) (fun hHeld => ?_)
        clear hK K
        try simp only [Act.put, List.setIfInBounds_toArray, List.set_cons_zero, List.set_cons_succ]
        refine wpAnyH_ready (rs := [17]) (by kernel_rfl) (by simp) ?_
        refine AllReadyH.cons (o := { dst := some 33, op := Op.call { callee := Callee.value (Operand.func 48), args := #[Operand.tmp 25, Operand.tmp 31, Operand.tmp 32, Operand.const (Value.bool false), Operand.const (Value.bool false)], argTypes := #[66, 3, 23, 4, 4] }, type := _, pos := _, after := _, guard := some (5, false) }) rfl (fun K hK => ?_) AllReadyH.nil
        · skip
          go_simp
          refine (MK.out _ _ _ Q.out).mono ?_; rintro e u3 ⟨rfl, G2, q3⟩
          have Q3 := Lib.hid q3
          clear q3 hHeld
          have hHeld := HS.out _ _ _ _ Q3.out
          go_wp2_with fail
          refine hK.out _ _ (HS.out _ _ _ _ Q3.out) (fun hHeld => ?_)
          clear hK K
          try simp only [Act.put, List.setIfInBounds_toArray, List.set_cons_zero, List.set_cons_succ]
          refine wpAnyH_take (i := 18) (oi := { dst := some 34, op := Op.binOp BinOp.neq 32 (Operand.tmp 33) (Operand.const (Value.int IntKind.i64 0)) 32, type := _, pos := _, after := _, guard := some (5, false) }) (v := ?_) rfl (by kernel_rfl) (by kernel_rfl) (by kernel_rfl) (fun _ _ _ h => h) (Or.inl ⟨by rfl, ?_⟩) (by assumption) ?_
          rotate_left 1
          · intro w hSw; (try dsimp only at hSw); go_simp; try (with_reducible rfl)
          try simp only [Act.put, List.setIfInBounds_toArray, List.set_cons_zero, List.set_cons_succ]
          refine wpAnyH_take (i := 19) (oi := { dst := some 35, op := Op.pick (Operand.tmp 21) (Operand.const (Value.bool true)) (Operand.tmp 34), type := _, pos := _, after := _, guard := none }) (v := ?_) rfl (by kernel_rfl) (by kernel_rfl) (by kernel_rfl) (fun _ _ _ h => h) (Or.inl ⟨by rfl, ?_⟩) (by assumption) ?_
          rotate_left 1
          · intro w hSw; (try dsimp only at hSw); go_simp; try (with_reducible rfl)
          try simp only [Act.put, List.setIfInBounds_toArray, List.set_cons_zero, List.set_cons_succ]
          refine wpAnyH_done (by kernel_rfl) ?_ _
          clear HS AR MK
          go_wp2_with fail
          go_ret
          exact ⟨rfl, _, _, Q3.out⟩
end Go.Proofs.YtlbhffdpklbhfaaGreat
