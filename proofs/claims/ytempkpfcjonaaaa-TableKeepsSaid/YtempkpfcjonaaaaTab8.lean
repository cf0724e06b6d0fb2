/-
  Layer 9, the program's more: a key that is not there is put.
  Conditions: the numbers fit their kinds; few maps; the bytes are not of memory.
-/
import Derived.Test.YtempkpfcjonaaaaTab7
namespace Go.Proofs.Ytempkpfcjonaaaa
open Go.RowKit
set_option maxRecDepth 100000
set_option linter.unusedVariables false
set_option linter.unusedSimpArgs false

/-- The program's maps, and the memory that they lie in. -/
structure RepD (w : World) (gt gm : Nat) (T : TT) (M : PM) (F G : Nat → Prop) : Prop where
  maps : RepU w gt gm T F
  mem : RepP w gm M G
  apart : ∀ x, F x → ¬ G x
theorem RepD.after {w u : World} {gt gm : Nat} {T : TT} {M : PM} {F G : Nat → Prop} (h : RepD w gt gm T M F G) (b : Below w.heap.size w u) : RepD u gt gm T M F G := ⟨h.maps.after b, h.mem.after b, h.apart⟩
def PutN (w : World) (gt gm : Nat) (F G : Nat → Prop) (T : TT) (M : PM) (w' : World) : Prop :=
  ∃ F' G', RepD w' gt gm T M F' G' ∧ Turn (fun x => F x ∨ G x) w w' ∧ (∀ x, F' x → F x ∨ w.heap.size ≤ x) ∧ ∀ x, G' x → G x ∨ w.heap.size ≤ x
def PutQ (gt gm : Nat) (F G : Nat → Prop) (r : TP) (w : World) (e : Ending) (w' : World) : Prop :=
  e = .returned (.tuple #[.int .u64 r.n, .int .i64 r.e]) ∧ PutN w gt gm F G r.T r.M w'
theorem putN_same {w w' : World} {gt gm : Nat} {T : TT} {M : PM} {F G : Nat → Prop} (h : RepD w gt gm T M F G) (b : Below w.heap.size w w') : PutN w gt gm F G T M w' :=
  ⟨F, G, h.after b, Turn.of_below b, fun x hx => .inl hx, fun x hx => .inl hx⟩
theorem PutN.next {w w' w'' : World} {gt gm : Nat} {T : TT} {M : PM} {F G : Nat → Prop} (h : PutN w gt gm F G T M w') (b : Below w'.heap.size w' w'') : PutN w gt gm F G T M w'' := by
  obtain ⟨F', G', h1, h2, h3, h4⟩ := h
  exact ⟨F', G', h1.after b, h2.next b, h3, h4⟩
theorem PutN.before {w0 w w' : World} {gt gm : Nat} {T : TT} {M : PM} {F G : Nat → Prop} (h : PutN w gt gm F G T M w') (b : Below w0.heap.size w0 w) : PutN w0 gt gm F G T M w' := by
  obtain ⟨F', G', h1, h2, h3, h4⟩ := h
  have := b.size
  exact ⟨F', G', h1, (Turn.of_below b).trans h2 (fun x hx => .inl hx), fun x hx => (h3 x hx).imp id (fun c => by omega), fun x hx => (h4 x hx).imp id (fun c => by omega)⟩
theorem rawN_put {w w' : World} {gt gm k : Nat} {vl : Value} {L : List TR} {M M' : PM} {F G F' G' : Nat → Prop} {r : TR} (hT : TFull (trM L)) (hk : k < L.length) (hn : ∀ j, j < L.length → (trAt L j).v ≠ .map none) (hr : r.m.ok) (hrf : r.m.d.hash = false → (r.m.L.length : Int) = r.m.d.max) (hrv : r.v ≠ .map none)
    (h : RawN w gt gm vl (L.set k r) M' F G w' F' G') : PutN w gt gm F G ((trM L).set k r.m) M' w' := by
  refine ⟨F', G', ⟨⟨vl, _, by simp only [trM, List.map_set], h.rep.maps, ⟨fun j hj => ?_, fun j hj hj2 => ?_⟩, fun j hj => ?_⟩, h.rep.mem, h.rep.apart⟩, h.turn, h.footF, h.footG⟩
  · rw [List.length_set, trM_len] at hj
    rw [mt_set (by rw [trM_len]; exact hk)]
    by_cases e : j = k
    · rw [if_pos e]; exact hr
    · rw [if_neg e]; exact hT.ok j (by rw [trM_len]; exact hj)
  · rw [List.length_set, trM_len] at hj
    rw [mt_set (by rw [trM_len]; exact hk)] at hj2 ⊢
    by_cases e : j = k
    · rw [if_pos e] at hj2 ⊢; exact hrf hj2
    · rw [if_neg e] at hj2 ⊢; exact hT.full j (by rw [trM_len]; exact hj) hj2
  · rw [List.length_set] at hj
    rw [trAt_set hk]
    by_cases e : j = k
    · rw [if_pos e]; exact hrv
    · rw [if_neg e]; exact hn j hj
theorem rawN_same {w w' : World} {gt gm : Nat} {vl : Value} {L : List TR} {M' : PM} {F G F' G' : Nat → Prop} (hT : TFull (trM L)) (hn : ∀ j, j < L.length → (trAt L j).v ≠ .map none)
    (h : RawN w gt gm vl L M' F G w' F' G') : PutN w gt gm F G (trM L) M' w' :=
  ⟨F', G', ⟨⟨vl, L, rfl, h.rep.maps, hT, hn⟩, h.rep.mem, h.rep.apart⟩, h.turn, h.footF, h.footG⟩

set_option maxHeartbeats 8000000 in
theorem q9_more (w : World) (gt gm : Nat) (vl : Value) (L : List TR) (M : PM) (F G : Nat → Prop) (k : Nat) (key val : List Int) (B C : Option Addr) (n d m c : Nat) (fl : Int) (h : RawD w gt gm vl L M F G) (hT : TFull (trM L)) (hnn : ∀ j, j < L.length → (trAt L j).v ≠ .map none) (hk : k < L.length) (hk1 : L.length ≤ 1000) (hkey : tFind (trAt L k).m.L key = none)
    (hb : Keep (fun x => F x ∨ G x) w B key) (hob : OkB key) (hn : key.length = n) (hnk : (n : Int) = (trAt L k).m.d.key) (hnd : n ≤ d) (hdm : d ≤ maxLen) (hv : Keep (fun x => F x ∨ G x) w C val) (hov : OkB val) (hvn : val.length = m) (hmv : (m : Int) = (trAt L k).m.d.val) (hmc : m ≤ c) (hcm : c ≤ maxLen) (hM : M.length ≤ 100000) (hfl : 0 ≤ fl ∧ fl ≤ 2) (R : TP) (hR : tPut (trM L) M k key val fl = R) :
    Calls Try.prog 46 #[.pointer (some ⟨gt, 0, none⟩), .int .i64 (k : Int), .slice B n d, .slice C m c, .int .u64 fl] w (fun e w' => e = .returned (.int .u64 R.n) ∧ R.e = 0 ∧ PutN w gt gm F G R.T R.M w') := by
  have hok := hT.ok k (by rw [trM_len]; exact hk)
  have hfu := hT.full k (by rw [trM_len]; exact hk)
  rw [trM_at] at hok hfu
  obtain ⟨hgood, -, hrise, hfew, hmade⟩ := id hok
  have hmax : (trAt L k).m.d.max ≤ 16 := by
    unfold Df.good at hgood
    simp only [Bool.and_eq_true, decide_eq_true_eq] at hgood
    exact hgood.2
  have hmay : tMay (trM L) k key = true := by
    unfold tMay
    rw [decide_eq_true (by omega : (0 : Int) ≤ (k : Int)), decide_eq_true (by rw [trM_len]; omega), Int.toNat_natCast, trM_at, hn, hnk]
    simp
  unfold tPut at hR
  rw [hmay, Int.toNat_natCast, trM_at, hvn, hmv] at hR
  simp only [beq_self_eq_true, Bool.and_self, if_true] at hR
  rw [if_neg (by omega), hkey] at hR
  simp only at hR
  have HS : Hid (PutN w gt gm F G (trM L) M w) := Lib.hid ⟨F, G, ⟨⟨vl, L, rfl, h.maps, hT, hnn⟩, h.mem, h.apart⟩, Turn.refl _ _, fun x hx => .inl hx, fun x hx => .inl hx⟩
  obtain ⟨gl, cl, hvl, k1, k2, hg, e0, e1, e2, e3, e4, e5⟩ := h.maps.at_ hk
  obtain ⟨c0, c1⟩ := h.maps.cells
  rw [hvl] at c1
  unfold maxLen at k2
  have k0 : (0 : Int) ≤ k := by omega
  have k3 : (k : Int) < L.length := by omega
  obtain ⟨mb, hmb⟩ : ∃ mb, (trAt L k).v = .map (some mb) := by
    obtain ⟨mb, e⟩ := h.maps.mapV hk
    cases mb with
    | none => exact absurd e (hnn k hk)
    | some b => exact ⟨b, e⟩
  rw [hmb] at e4
  have LN : Hid (∀ u, Below w.heap.size w u → ∀ ty, (Builtin.len_ #[76] ty #[.map (some mb)]).run Try.prog u = .ok (.int .i64 ((trAt L k).m.L.length : Int)) u) := Lib.hid fun u b ty => by
    have hs := (h.maps.own k hk).same (w' := u) (fun x hx => b.block x ((h.maps.own k hk).lt hx))
    rw [hmb] at hs
    exact hs.len hok.kok ty
  have AD : Hid (∀ u, Below w.heap.size w u → Calls Try.prog 50 #[.pointer (some ⟨gt, 0, none⟩), .int .i64 (k : Int), .slice B n d, .slice C m c] u
      (if (trAt L k).m.made = 1024 then AddW gt gm vl F G L M (.bool false) u
       else if (pMake M (tArea k (trAt L k).m.made) val false false).2 = 0 then AddW gt gm vl F G (L.set k ⟨⟨(trAt L k).m.d, tIns (trAt L k).m.L ⟨key, (trAt L k).m.made⟩, (trAt L k).m.made + 1⟩, .map (some mb)⟩) (pMake M (tArea k (trAt L k).m.made) val false false).1 (.bool true) u
       else AddW gt gm vl F G L M (.bool false) u)) := Lib.hid fun u b =>
    q9_add u gt gm vl L M F G k key val B C n d m c (h.after b) hk hk1 mb hmb hok.kok hkey (by omega) (by omega) (hb.on (Turn.of_below b) (fun x hx => .inl hx)) hob hn hnd hdm (hv.on (Turn.of_below b) (fun x hx => .inl hx)) hov hvn hmc hcm hM
  have OKI : ¬ (trAt L k).m.d.max ≤ (trAt L k).m.L.length → ¬ 1024 ≤ (trAt L k).m.made → TM.ok ⟨(trAt L k).m.d, tIns (trAt L k).m.L ⟨key, (trAt L k).m.made⟩, (trAt L k).m.made + 1⟩ := fun hf hm => tIns_ok hok key hkey hob (by omega) hf hm
  have PT := Lib.hid fun (u w' : World) (M' : PM) (F' G' : Nat → Prop) (r : TR) (b : Below w.heap.size w u) hr hrf hrv (q : RawN u gt gm vl (L.set k r) M' F G w' F' G') => (rawN_put (M := M) hT hk hnn hr hrf hrv q).before b
  have PS := Lib.hid fun (u w' : World) (M' : PM) (F' G' : Nat → Prop) (b : Below w.heap.size w u) (q : RawN u gt gm vl L M' F G w' F' G') => (rawN_same hT hnn q).before b
  clear h hT hnn hb hv hkey hmb hvl hok hrise hgood hmay
  have E := fun qh qv => below_alloc (Below.refl w.heap.size w) (.cells #[.bool qh, .int .i64 (trAt L k).m.d.key, .int .i64 qv, .int .i64 (trAt L k).m.d.max, .map (some mb), .int .i64 ((trAt L k).m.made : Int)] 78)
  cases hqh : (trAt L k).m.d.hash
  · rw [hqh, if_pos rfl] at hR
    rw [hqh] at e0
    subst hR
    have hfu2 := hfu hqh
    have hL2 := LN.out _ (E false (trAt L k).m.d.val)
    rw [hfu2] at hL2
    clear AD PT PS OKI LN hfu hfu2
    generalize (trAt L k).m.d.key = qk at *
    generalize (trAt L k).m.d.val = qv at *
    generalize (trAt L k).m.d.max = qm at *
    generalize (trAt L k).m.made = qd at *
    have EE := Lib.hid (E false qv)
    clear E
    show Calls _ _ _ _ (fun e w' => e = .returned (.int .u64 18446744073709551609) ∧ (0 : Int) = 0 ∧ PutN w gt gm F G (trM L) M w')
    go_enter Try.func46, Try.ntmps46
    go_wp2_with fail
    go_ret
    first | exact ⟨rfl, HS.out.next EE.out⟩ | exact ⟨rfl, (by first | rfl | trivial), HS.out.next EE.out⟩
  · rw [hqh, if_neg (by simp)] at hR
    rw [hqh] at e0
    by_cases h2 : fl = 2
    · rw [if_pos h2] at hR
      subst hR h2
      clear AD PT PS OKI LN hfu
      generalize (trAt L k).m.d.key = qk at *
      generalize (trAt L k).m.d.val = qv at *
      generalize (trAt L k).m.d.max = qm at *
      generalize (trAt L k).m.made = qd at *
      have EE := Lib.hid (E true qv)
      clear E
      show Calls _ _ _ _ (fun e w' => e = .returned (.int .u64 18446744073709551614) ∧ (0 : Int) = 0 ∧ PutN w gt gm F G (trM L) M w')
      go_enter Try.func46, Try.ntmps46
      go_wp2_with fail
      go_ret
      first | exact ⟨rfl, HS.out.next EE.out⟩ | exact ⟨rfl, (by first | rfl | trivial), HS.out.next EE.out⟩
    · rw [if_neg h2] at hR
      have h2' : (fl == 2) = false := by simpa using h2
      by_cases hf : (trAt L k).m.d.max ≤ (trAt L k).m.L.length
      · rw [if_pos hf] at hR
        subst hR
        have hfu2 : ((trAt L k).m.L.length : Int) = (trAt L k).m.d.max := by omega
        have hL2 := LN.out _ (E true (trAt L k).m.d.val)
        rw [hfu2] at hL2
        clear AD PT PS OKI LN hfu hfu2 hf
        generalize (trAt L k).m.d.key = qk at *
        generalize (trAt L k).m.d.val = qv at *
        generalize (trAt L k).m.d.max = qm at *
        generalize (trAt L k).m.made = qd at *
        have EE := Lib.hid (E true qv)
        clear E
        show Calls _ _ _ _ (fun e w' => e = .returned (.int .u64 18446744073709551609) ∧ (0 : Int) = 0 ∧ PutN w gt gm F G (trM L) M w')
        go_enter Try.func46, Try.ntmps46
        go_wp2_with fail
        go_ret
        first | exact ⟨rfl, HS.out.next EE.out⟩ | exact ⟨rfl, (by first | rfl | trivial), HS.out.next EE.out⟩
      · rw [if_neg hf] at hR
        have hL2 := LN.out _ (E true (trAt L k).m.d.val)
        have hne : (((trAt L k).m.L.length : Int) == (trAt L k).m.d.max) = false := by
          rw [beq_eq_false_iff_ne]; omega
        have OKJ := Lib.hid (OKI hf)
        have EE := Lib.hid (E true (trAt L k).m.d.val)
        have HQ := Lib.hid hqh
        clear LN hfu hfew hf OKI E
        have AN : Hid (∀ u, Below w.heap.size w u → Calls Try.prog 50 #[.pointer (some ⟨gt, 0, none⟩), .int .i64 (k : Int), .slice B n d, .slice C m c] u
            (fun e w' => (e = .returned (.bool true) ∧ R.n = 0 ∨ e = .returned (.bool false) ∧ R.n = 18446744073709551604) ∧ R.e = 0 ∧ PutN w gt gm F G R.T R.M w')) := Lib.hid fun u b => by
          refine (AD.out u b).mono fun e w' hw => ?_
          by_cases hm : 1024 ≤ (trAt L k).m.made
          · rw [if_pos hm] at hR
            rw [if_pos (by omega)] at hw
            obtain ⟨rfl, F', G', q⟩ := hw
            subst hR
            exact ⟨.inr ⟨rfl, rfl⟩, rfl, PS.out u w' M F' G' b q⟩
          · rw [if_neg hm] at hR
            rw [if_neg (by omega)] at hw
            by_cases hp : (pMake M (tArea k (trAt L k).m.made) val false false).2 = 0
            · rw [if_pos hp] at hR hw
              obtain ⟨rfl, F', G', q⟩ := hw
              subst hR
              exact ⟨.inl ⟨rfl, rfl⟩, rfl, PT.out u w' _ F' G' _ b (OKJ.out hm) (fun e => by rw [show (trAt L k).m.d.hash = true from HQ.out] at e; cases e) (by simp) q⟩
            · rw [if_neg hp] at hR hw
              obtain ⟨rfl, F', G', q⟩ := hw
              subst hR
              exact ⟨.inr ⟨rfl, rfl⟩, rfl, PS.out u w' M F' G' b q⟩
        clear AD PT PS OKJ hR HQ hqh
        generalize (trAt L k).m.d.key = qk at *
        generalize (trAt L k).m.d.val = qv at *
        generalize (trAt L k).m.d.max = qm at *
        generalize (trAt L k).m.made = qd at *
        generalize (trAt L k).m.L.length = ql at *
        go_enter Try.func46, Try.ntmps46
        go_wp2_with fail
        refine (AN.out _ EE.out).mono ?_
        rintro e w' ⟨⟨rfl, q1⟩ | ⟨rfl, q1⟩, q2, q3⟩
        · have QQ := Lib.hid (And.intro q1 (And.intro q2 q3))
          clear q1 q2 q3
          go_wp2_with fail
          go_ret
          exact ⟨by rw [QQ.out.1]; rfl, QQ.out.2⟩
        · have QQ := Lib.hid (And.intro q1 (And.intro q2 q3))
          clear q1 q2 q3
          go_wp2_with fail
          go_ret
          exact ⟨by rw [QQ.out.1]; rfl, QQ.out.2⟩

end Go.Proofs.Ytempkpfcjonaaaa
