/-
  Layer 9, the program's Drop.
  Conditions: the numbers fit their kinds; few maps.
-/
import Derived.Test.YtempkpfcjonaaaaTab4
namespace Go.Proofs.Ytempkpfcjonaaaa
open Go.RowKit
set_option maxRecDepth 100000
set_option linter.unusedVariables false
set_option linter.unusedSimpArgs false

set_option maxHeartbeats 2000000 in
theorem q9_Drop (w : World) (gt gm : Nat) (T : TT) (F : Nat → Prop) (i : Int) (key : List Int) (B : Option Addr) (n d : Nat) (h : RepU w gt gm T F) (hT : T.length ≤ 1000) (hb : BytS w B key) (hob : OkB key) (hn : key.length = n) (hnd : n ≤ d) (hdm : d ≤ maxLen) :
    Calls Try.prog 23 #[.pointer (some ⟨gt, 0, none⟩), .int .i64 i, .slice B n d] w (MapQ gt gm F (tDrop T i key).1 (.tuple #[.int .u64 (tDrop T i key).2.1, .int .i64 (tDrop T i key).2.2]) w) := by
  unfold tDrop
  cases hm : tMay T i key
  · rw [if_neg Bool.false_ne_true]
    have FI := Lib.hid (q9_find_no w gt gm T F i key B n d h hn hnd hm)
    rw [show kZ = .agg #[.bool false, .int .i64 0, .int .i64 0, .int .i64 0, .map none, .int .i64 0] from rfl] at FI
    have HH := Lib.hid h
    clear h hm hn hb hob
    dsimp only
    go_enter Try.func23, Try.ntmps23
    go_wp2_with fail
    refine (FI.out).mono ?_
    rintro e w1 ⟨rfl, b1⟩
    have V := Lib.hid b1
    clear b1
    go_wp2_with fail
    go_ret2
    exact mapQ_same HH.out (below_alloc V.out _)
  · rw [if_pos rfl]
    obtain ⟨i0, i1, hq⟩ := may_yes hm
    obtain ⟨k, rfl⟩ : ∃ k : Nat, i = k := ⟨i.toNat, by omega⟩
    rw [Int.toNat_natCast] at hq ⊢
    have hok := h.ok
    have HH := Lib.hid h
    obtain ⟨vl, L, rfl, hV, hTF, hnn⟩ := id h
    rw [trM_len] at i1 hT
    have hk : k < L.length := by omega
    rw [trM_at] at hq ⊢
    have FI := Lib.hid (q9_find_yes w gt gm vl L F k key B n d h hV hk hn hnd (by omega))
    obtain ⟨mb, hmb⟩ := hV.mapV hk
    have SK := Lib.hid (hV.seeK (d := d) hok hk hmb hb hob hn (by omega))
    have DN := Lib.hid fun (u u' : World) (b : Nat) (e : mb = some b) hh => drop_done (u := u) (u' := u') (b := b) (key := key) hTF hV hnn hk (by rw [hmb, e]) hob hh
    have SL := Lib.hid (hV.own k hk)
    have HL := Lib.hid fun x (hx : F x) => hV.lt hx
    unfold kV at FI
    rw [hmb] at FI
    have hb0 : ∃ b, mb = some b := by
      cases mb with
      | none => exact absurd hmb (hnn k hk)
      | some b => exact ⟨b, rfl⟩
    obtain ⟨b, rfl⟩ := hb0
    rw [hmb] at SL
    have hkl : key.length ≤ maxLen := by omega
    clear h hb hm hV hok hq hn hmb hTF hnn
    dsimp only
    generalize (trAt L k).m.d.key = q at *
    generalize hqh : (trAt L k).m.d.hash = qh at *
    generalize (trAt L k).m.d.val = qv at *
    generalize (trAt L k).m.d.max = qm at *
    cases qh
    · rw [if_pos rfl, show minusI 22 = 18446744073709551594 from rfl]
      clear DN SL
      generalize (trAt L k).m.made = qd at *
      go_enter Try.func23, Try.ntmps23
      go_wp2_with fail
      refine (FI.out).mono ?_
      rintro e w1 ⟨rfl, b1⟩
      have V := Lib.hid b1
      clear b1
      go_wp2_with fail
      go_ret2
      exact mapQ_same HH.out (below_alloc V.out _)
    · rw [if_neg (by simp)]
      cases hs : tFind (trAt L k).m.L key with
      | none =>
        dsimp only
        rw [show minusI 2 = 18446744073709551614 from rfl]
        clear DN SL
        generalize (trAt L k).m.made = qd at *
        go_enter Try.func23, Try.ntmps23
        go_wp2_with fail
        refine (FI.out).mono ?_
        rintro e w1 ⟨rfl, b1⟩
        have V := Lib.hid (below_alloc b1 (.cells #[.bool true, .int .i64 q, .int .i64 qv, .int .i64 qm, .map (some b), .int .i64 qd] 78))
        have LK := SK.out.look _ V.out
        have ST := SK.out.str _ V.out
        clear b1
        rw [hs] at LK
        rw [show (((none : Option Nat).getD 0 : Nat) : Int) = 0 from rfl, show (none : Option Nat).isSome = false from rfl] at LK
        clear hs
        go_wp2_with fail
        go_ret2
        exact mapQ_same HH.out V.out
      | some s =>
        dsimp only
        have DR : Hid (∀ u, Below w.heap.size w u → ∃ w', (∀ ty, (Builtin.delete_ #[76, 9] ty #[.map (some b), .string (strOfNums key)]).run Try.prog u = .ok (.tuple #[]) w') ∧ MapQ gt gm F ((trM L).set k ⟨(trAt L k).m.d, leftK (trAt L k).m.L key, (trAt L k).m.made⟩) (.tuple #[.int .u64 0, .int .i64 0]) w (.returned (.tuple #[.int .u64 0, .int .i64 0])) w') := Lib.hid fun u V => by
          have hms := (SL.out.same (w' := u) (fun x hx => V.block x (SL.out.lt hx))).is
          obtain ⟨w', hr, hm', hg⟩ := hms.drop strK Try.underlying76 (keyOf_key hkl) 0
          exact ⟨w', fun ty => hr, DN.out u w' b rfl rfl V hm' hg⟩
        clear DN SL
        have hfil : (trAt L k).m.L.filter (fun x => !(x.k == key)) = leftK (trAt L k).m.L key := rfl
        rw [hfil]
        generalize (trM L).set k ⟨(trAt L k).m.d, leftK (trAt L k).m.L key, (trAt L k).m.made⟩ = T' at *
        generalize (trAt L k).m.made = qd at *
        go_enter Try.func23, Try.ntmps23
        go_wp2_with fail
        refine (FI.out).mono ?_
        rintro e w1 ⟨rfl, b1⟩
        have V := Lib.hid (below_alloc b1 (.cells #[.bool true, .int .i64 q, .int .i64 qv, .int .i64 qm, .map (some b), .int .i64 qd] 78))
        have LK := SK.out.look _ V.out
        have ST := SK.out.str _ V.out
        obtain ⟨w', hr, DONE⟩ := DR.out _ V.out
        replace DONE := Lib.hid DONE
        clear b1
        rw [hs] at LK
        rw [show (((some s : Option Nat).getD 0 : Nat) : Int) = (s : Int) from rfl, show (some s : Option Nat).isSome = true from rfl] at LK
        clear hs
        go_wp2_with fail
        go_ret2
        exact DONE.out

end Go.Proofs.Ytempkpfcjonaaaa
