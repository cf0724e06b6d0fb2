/-
  Layer 9, the program's Look.
  Conditions: the numbers fit their kinds; few maps.
-/
import Derived.Test.YtempkpfcjonaaaaTab2
namespace Go.Proofs.Ytempkpfcjonaaaa
open Go.RowKit
set_option maxRecDepth 100000
set_option linter.unusedVariables false
set_option linter.unusedSimpArgs false

set_option maxHeartbeats 2000000 in
theorem q9_Look_no (w : World) (gt gm : Nat) (T : TT) (F : Nat → Prop) (i : Int) (key : List Int) (B : Option Addr) (n d : Nat) (h : RepU w gt gm T F) (hn : key.length = n) (hnd : n ≤ d) (hm : tMay T i key = false) :
    Calls Try.prog 24 #[.pointer (some ⟨gt, 0, none⟩), .int .i64 i, .slice B n d] w (Gives (.tuple #[.int .u64 0, .int .i64 1]) w) := by
  have FI := Lib.hid (q9_find_no w gt gm T F i key B n d h hn hnd hm)
  rw [show kZ = .agg #[.bool false, .int .i64 0, .int .i64 0, .int .i64 0, .map none, .int .i64 0] from rfl] at FI
  clear h hm hn
  go_enter Try.func24, Try.ntmps24
  go_wp2_with fail
  refine (FI.out).mono ?_
  rintro e w1 ⟨rfl, b1⟩
  have V := Lib.hid b1
  clear b1
  go_wp2_with fail
  go_ret2
  exact ⟨rfl, below_alloc V.out _⟩

/-- What is looked up, and what a key is as a string, in whatever world has come. -/
structure SeeK (w : World) (mb : Option Nat) (K : List TK) (key : List Int) (B : Option Addr) (n d : Nat) : Prop where
  look : ∀ u, Below w.heap.size w u → (Instr.lookup 76 (.map mb) (.string (strOfNums key)) true).run Try.prog u = .ok (.tuple #[.int .i64 (((tFind K key).getD 0 : Nat) : Int), .bool (tFind K key).isSome]) u
  str : ∀ u, Below w.heap.size w u → (convert 40 9 (.slice B n d)).run Try.prog u = .ok (.string (strOfNums key)) u
theorem RepV.seeK {w : World} {gt gm : Nat} {vl : Value} {L : List TR} {F : Nat → Prop} (hU : TOk (trM L)) (h : RepV w gt gm vl L F) {k : Nat} (hk : k < L.length) {mb : Option Nat} (hv : (trAt L k).v = .map mb) {key : List Int} {B : Option Addr} {n d : Nat} (hb : BytS w B key) (hob : OkB key) (hn : key.length = n) (hm : n ≤ maxLen) :
    SeeK w mb (trAt L k).m.L key B n d :=
  ⟨fun u b => by
    have hs : SlotR u (.map mb) (trAt L k).m.L := by
      rw [← hv]
      exact (h.own k hk).same fun x hx => b.block x (h.lt (h.footK hx))
    exact hs.look (fun x hx => by
      have := (hU k (by rw [trM_len]; exact hk)).keys x (by rw [trM_at]; exact hx)
      exact this.1) hob (by omega), fun u b => by rw [← hn]; exact str_bytS (hb.after b) d⟩
theorem RepV.mapV {w : World} {gt gm : Nat} {vl : Value} {L : List TR} {F : Nat → Prop} (h : RepV w gt gm vl L F) {k : Nat} (hk : k < L.length) : ∃ mb, (trAt L k).v = .map mb := by
  rcases h.own k hk with ⟨h, _⟩ | ⟨b, h, _⟩
  · exact ⟨_, h⟩
  · exact ⟨_, h⟩

set_option maxHeartbeats 2000000 in
theorem q9_Look (w : World) (gt gm : Nat) (T : TT) (F : Nat → Prop) (i : Int) (key : List Int) (B : Option Addr) (n d : Nat) (h : RepU w gt gm T F) (hT : T.length ≤ 1000) (hb : BytS w B key) (hob : OkB key) (hn : key.length = n) (hnd : n ≤ d) (hdm : d ≤ maxLen) :
    Calls Try.prog 24 #[.pointer (some ⟨gt, 0, none⟩), .int .i64 i, .slice B n d] w (Gives (.tuple #[.int .u64 (tLook T i key).1, .int .i64 (tLook T i key).2]) w) := by
  unfold tLook
  cases hm : tMay T i key
  · rw [if_neg Bool.false_ne_true]
    exact q9_Look_no w gt gm T F i key B n d h hn hnd hm
  · rw [if_pos rfl]
    obtain ⟨i0, i1, hq⟩ := may_yes hm
    obtain ⟨k, rfl⟩ : ∃ k : Nat, i = k := ⟨i.toNat, by omega⟩
    rw [Int.toNat_natCast] at hq ⊢
    have hsm := fun s => find_small h.ok (i := k) (by omega) (key := key) (s := s)
    have hok := h.ok
    obtain ⟨vl, L, rfl, hV, -⟩ := id h
    rw [trM_len] at i1 hT
    have hk : k < L.length := by omega
    rw [trM_at] at hq hsm ⊢
    have FI := Lib.hid (q9_find_yes w gt gm vl L F k key B n d h hV hk hn hnd (by omega))
    obtain ⟨mb, hmb⟩ := hV.mapV hk
    have SK := Lib.hid (hV.seeK (d := d) hok hk hmb hb hob hn (by omega))
    unfold kV at FI
    rw [hmb] at FI
    have AR : Hid (∀ s : Nat, s < 1024 → ∀ u, Calls Try.prog 20 #[.int .i64 (k : Int), .int .i64 (s : Int)] u (Gives (.int .i64 (tArea k s)) u)) := Lib.hid fun s hs u => q9_Area k s u (by omega) (by omega)
    have AT : Hid (∀ a u, Calls Try.prog 26 #[.int .i64 a, .int .i64 0] u (Gives (.int .u64 (atI a 0)) u)) := Lib.hid fun a u => c8_At a 0 u
    clear h hb hm hV hok hq hn hob hmb
    generalize (trAt L k).m.d.key = q at *
    generalize (trAt L k).m.d.hash = qh at *
    generalize (trAt L k).m.d.val = qv at *
    generalize (trAt L k).m.d.max = qm at *
    generalize (trAt L k).m.made = qd at *
    generalize (trAt L k).m.L = K at *
    cases hs : tFind K key with
    | none =>
      clear hsm
      dsimp only
      go_enter Try.func24, Try.ntmps24
      go_wp2_with fail
      refine (FI.out).mono ?_
      rintro e w1 ⟨rfl, b1⟩
      have V := Lib.hid (below_alloc b1 (.cells #[.bool qh, .int .i64 q, .int .i64 qv, .int .i64 qm, .map mb, .int .i64 qd] 78))
      have LK := SK.out.look _ V.out
      have ST := SK.out.str _ V.out
      clear b1
      rw [hs] at LK
      rw [show (((none : Option Nat).getD 0 : Nat) : Int) = 0 from rfl, show (none : Option Nat).isSome = false from rfl] at LK
      clear hs
      go_wp2_with fail
      go_ret2
      exact ⟨rfl, V.out⟩
    | some s =>
      have s1 := hsm s hs
      clear hsm
      have A1 := Lib.hid (AR.out s s1)
      have A2 := Lib.hid (AT.out (tArea k s))
      dsimp only
      generalize atI (tArea k s) 0 = at_ at *
      generalize tArea k s = ar at *
      go_enter Try.func24, Try.ntmps24
      go_wp2_with fail
      refine (FI.out).mono ?_
      rintro e w1 ⟨rfl, b1⟩
      have V := Lib.hid (below_alloc b1 (.cells #[.bool qh, .int .i64 q, .int .i64 qv, .int .i64 qm, .map mb, .int .i64 qd] 78))
      have LK := SK.out.look _ V.out
      have ST := SK.out.str _ V.out
      clear b1
      rw [hs] at LK
      rw [show (((some s : Option Nat).getD 0 : Nat) : Int) = (s : Int) from rfl, show (some s : Option Nat).isSome = true from rfl] at LK
      clear hs
      go_wp2_with fail
      refine (A1.out _).mono ?_
      rintro e w3 ⟨rfl, b3⟩
      replace V := Lib.hid (below_next' V.out b3)
      clear b3
      go_wp2_with fail
      refine (A2.out _).mono ?_
      rintro e w4 ⟨rfl, b4⟩
      replace V := Lib.hid (below_next' V.out b4)
      clear b4
      go_wp2_with fail
      go_ret2
      exact ⟨rfl, V.out⟩

end Go.Proofs.Ytempkpfcjonaaaa
