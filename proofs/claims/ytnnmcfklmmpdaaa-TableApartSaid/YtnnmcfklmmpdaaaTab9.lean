/-
  Layer 9, the program's Put.
  Conditions: the numbers fit their kinds; few maps; the bytes are not of memory.
-/
import Derived.Test.YtnnmcfklmmpdaaaTab8
namespace Go.Proofs.Ytnnmcfklmmpdaaa
open Go.RowKit
set_option maxRecDepth 100000
set_option linter.unusedVariables false
set_option linter.unusedSimpArgs false

theorem tPut_no {T : TT} {M : PM} {i : Int} {key val : List Int} {fl : Int} (h : (tMay T i key && ((val.length : Int) == (mt T i.toNat).d.val)) = false) : tPut T M i key val fl = ⟨T, M, 0, 1⟩ := by
  unfold tPut
  rw [h]
  rfl

set_option maxHeartbeats 8000000 in
theorem q9_Put (w : World) (gt gm : Nat) (T : TT) (M : PM) (F G : Nat → Prop) (i : Int) (key val : List Int) (B C : Option Addr) (n d m c : Nat) (fl : Int) (h : RepD w gt gm T M F G) (hT1 : T.length ≤ 1000)
    (hb : Keep (fun x => F x ∨ G x) w B key) (hob : OkB key) (hn : key.length = n) (hnd : n ≤ d) (hdm : d ≤ maxLen) (hv : Keep (fun x => F x ∨ G x) w C val) (hov : OkB val) (hvn : val.length = m) (hmc : m ≤ c) (hcm : c ≤ maxLen) (hfl : 0 ≤ fl ∧ fl ≤ 18446744073709551615) (hM : M.length ≤ 100000) :
    Calls Try.prog 25 #[.pointer (some ⟨gt, 0, none⟩), .int .i64 i, .slice B n d, .slice C m c, .int .u64 fl] w (PutQ gt gm F G (tPut T M i key val fl) w) := by
  have HS := Lib.hid fun w' (b : Below w.heap.size w w') => putN_same h b
  cases hm : tMay T i key
  · rw [tPut_no (by rw [hm]; rfl)]
    have FI := Lib.hid (q9_find_no w gt gm T F i key B n d h.maps hn hnd hm)
    rw [show kZ = .agg #[.bool false, .int .i64 0, .int .i64 0, .int .i64 0, .map none, .int .i64 0] from rfl] at FI
    clear h hm hn hb hob hv hov hvn
    unfold PutQ
    dsimp only
    go_enter Try.func25, Try.ntmps25
    go_wp2_with fail
    refine (FI.out).mono ?_
    rintro e w1 ⟨rfl, b1⟩
    have V := Lib.hid b1
    clear b1
    go_wp2_with fail
    go_ret2
    exact ⟨rfl, HS.out _ (below_alloc V.out _)⟩
  · obtain ⟨i0, i1, hq⟩ := may_yes hm
    obtain ⟨k, rfl⟩ : ∃ k : Nat, i = k := ⟨i.toNat, by omega⟩
    rw [Int.toNat_natCast] at hq
    have hok := h.maps.ok
    obtain ⟨vl, L, rfl, hV, hTF, hnn⟩ := id h.maps
    rw [trM_len] at i1 hT1
    have hk : k < L.length := by omega
    rw [trM_at] at hq
    have hRaw : RawD w gt gm vl L M F G := ⟨hV, h.mem, h.apart⟩
    have FI := Lib.hid (q9_find_yes w gt gm vl L F k key B n d h.maps hV hk hn hnd (by omega))
    obtain ⟨mb, hmb⟩ := hV.mapV hk
    have SK := Lib.hid (hV.seeK (d := d) hok hk hmb (hb.at_) hob hn (by omega))
    unfold kV at FI
    rw [hmb] at FI
    by_cases hvl : (m : Int) = (trAt L k).m.d.val
    · have hAt : ((val.length : Int) == (mt (trM L) (k : Int).toNat).d.val) = true := by
        rw [Int.toNat_natCast, trM_at, hvn, hvl]; simp
      have hvl2 : ((m : Int) != (trAt L k).m.d.val) = false := by rw [hvl]; simp
      by_cases hf : 2 < fl
      · have hR : tPut (trM L) M k key val fl = ⟨trM L, M, minusI 22, 0⟩ := by
          unfold tPut
          rw [hm, hAt]
          simp only [Bool.and_self, if_true]
          rw [if_pos hf]
        rw [hR, show minusI 22 = 18446744073709551594 from rfl]
        clear h hm hn hb hob hv hov hvn hRaw hV hTF hnn hok hmb SK hAt hq hR hvl
        generalize (trAt L k).m.d.key = q at *
        generalize (trAt L k).m.d.hash = qh at *
        generalize (trAt L k).m.d.val = qv at *
        generalize (trAt L k).m.d.max = qm at *
        generalize (trAt L k).m.made = qd at *
        unfold PutQ
        dsimp only
        go_enter Try.func25, Try.ntmps25
        go_wp2_with fail
        refine (FI.out).mono ?_
        rintro e w1 ⟨rfl, b1⟩
        have V := Lib.hid b1
        clear b1
        go_wp2_with fail
        go_ret2
        exact ⟨rfl, HS.out _ (below_alloc V.out _)⟩
      · have hf' : fl ≤ 2 := by omega
        cases hs : tFind (trAt L k).m.L key with
        | some s =>
          have s1 : s < 1024 := find_small hok (i := k) (by rw [trM_len]; exact hk) (key := key) (s := s) (by rw [trM_at]; exact hs)
          have hR : tPut (trM L) M k key val fl = ⟨trM L, if fl = 1 then M else tFill M k s 0 val, if fl = 1 then minusI 17 else 0, 0⟩ := by
            unfold tPut
            rw [hm, hAt]
            simp only [Bool.and_self, if_true]
            rw [if_neg hf, Int.toNat_natCast, trM_at, hs]
            simp only
            split <;> rfl
          rw [hR]
          have hm1 : m ≤ 1000 := by
            have hg := (hok k (by rw [trM_len]; exact hk)).good
            rw [trM_at] at hg
            unfold Df.good at hg
            simp only [Bool.and_eq_true, decide_eq_true_eq] at hg
            omega
          have AR : Hid (∀ u, Calls Try.prog 20 #[.int .i64 (k : Int), .int .i64 (s : Int)] u (Gives (.int .i64 (tArea k s)) u)) := Lib.hid fun u => q9_Area k s u (by omega) (by omega)
          have CH : Hid (∀ u, Below w.heap.size w u → Calls Try.prog 45 #[.pointer (some ⟨gt, 0, none⟩), .int .i64 (tArea k s), .slice C m c, .int .u64 fl] u
              (fun e w' => e = .returned (.int .u64 (if fl = 1 then minusI 17 else 0)) ∧ PutN w gt gm F G (trM L) (if fl = 1 then M else tFill M k s 0 val) w')) := Lib.hid fun u b =>
            (q9_change u gt gm vl L M F G k s val C m c fl (hRaw.after b) (by omega) (by omega) (hv.on (Turn.of_below b) (fun x hx => .inl hx)) hov hvn hmc hm1 hfl).mono fun e w' ⟨he, F', G', q⟩ => ⟨he, (rawN_same hTF hnn q).before b⟩
          have LK0 := Lib.hid fun u (b : Below w.heap.size w u) => SK.out.look u b
          have ST0 := Lib.hid fun u (b : Below w.heap.size w u) => SK.out.str u b
          rw [hs] at LK0
          rw [show (((some s : Option Nat).getD 0 : Nat) : Int) = (s : Int) from rfl, show (some s : Option Nat).isSome = true from rfl] at LK0
          clear h hm hn hb hob hv hov hvn hRaw hV hTF hnn hok hmb SK hAt hq hR hvl hs HS
          generalize (if fl = 1 then M else tFill M k s 0 val) = M' at *
          generalize (if fl = 1 then minusI 17 else 0) = rr at *
          generalize tArea k s = ar at *
          generalize (trAt L k).m.d.key = q at *
          generalize (trAt L k).m.d.hash = qh at *
          generalize (trAt L k).m.d.val = qv at *
          generalize (trAt L k).m.d.max = qm at *
          generalize (trAt L k).m.made = qd at *
          unfold PutQ
          dsimp only
          go_enter Try.func25, Try.ntmps25
          go_wp2_with fail
          refine (FI.out).mono ?_
          rintro e w1 ⟨rfl, b1⟩
          have V := Lib.hid (below_alloc b1 (.cells #[.bool qh, .int .i64 q, .int .i64 qv, .int .i64 qm, .map mb, .int .i64 qd] 78))
          have LK := LK0.out _ V.out
          have ST := ST0.out _ V.out
          clear b1 LK0 ST0
          go_wp2_with fail
          refine (AR.out _).mono ?_
          rintro e w3 ⟨rfl, b3⟩
          replace V := Lib.hid (below_next' V.out b3)
          clear b3 LK ST
          go_wp2_with fail
          refine (CH.out _ V.out).mono ?_
          rintro e w4 ⟨rfl, b4⟩
          replace V := Lib.hid b4
          clear b4
          go_wp2_with fail
          go_ret2
          exact ⟨rfl, V.out⟩
        | none =>
          have MR : Hid (∀ u, Below w.heap.size w u → Calls Try.prog 46 #[.pointer (some ⟨gt, 0, none⟩), .int .i64 (k : Int), .slice B n d, .slice C m c, .int .u64 fl] u (fun e w' => e = .returned (.int .u64 (tPut (trM L) M k key val fl).n) ∧ (tPut (trM L) M k key val fl).e = 0 ∧ PutN w gt gm F G (tPut (trM L) M k key val fl).T (tPut (trM L) M k key val fl).M w')) := Lib.hid fun u b =>
            (q9_more u gt gm vl L M F G k key val B C n d m c fl (hRaw.after b) hTF hnn hk hT1 hs (hb.on (Turn.of_below b) (fun x hx => .inl hx)) hob hn (by omega) hnd hdm (hv.on (Turn.of_below b) (fun x hx => .inl hx)) hov hvn hvl hmc hcm hM ⟨hfl.1, hf'⟩ _ rfl).mono fun e w' ⟨h1, h2, h3⟩ => ⟨h1, h2, h3.before b⟩
          have LK0 := Lib.hid fun u (b : Below w.heap.size w u) => SK.out.look u b
          have ST0 := Lib.hid fun u (b : Below w.heap.size w u) => SK.out.str u b
          rw [hs] at LK0
          rw [show (((none : Option Nat).getD 0 : Nat) : Int) = 0 from rfl, show (none : Option Nat).isSome = false from rfl] at LK0
          clear h hm hn hb hob hv hov hvn hRaw hV hTF hnn hok hmb SK hAt hq hvl hs HS
          generalize tPut (trM L) M k key val fl = R at *
          obtain ⟨RT, RM, Rn, Re⟩ := R
          generalize (trAt L k).m.d.key = q at *
          generalize (trAt L k).m.d.hash = qh at *
          generalize (trAt L k).m.d.val = qv at *
          generalize (trAt L k).m.d.max = qm at *
          generalize (trAt L k).m.made = qd at *
          unfold PutQ
          dsimp only at MR ⊢
          go_enter Try.func25, Try.ntmps25
          go_wp2_with fail
          refine (FI.out).mono ?_
          rintro e w1 ⟨rfl, b1⟩
          have V := Lib.hid (below_alloc b1 (.cells #[.bool qh, .int .i64 q, .int .i64 qv, .int .i64 qm, .map mb, .int .i64 qd] 78))
          have LK := LK0.out _ V.out
          have ST := ST0.out _ V.out
          clear b1 LK0 ST0
          go_wp2_with fail
          refine (MR.out _ V.out).mono ?_
          rintro e w4 ⟨rfl, h2, b4⟩
          replace V := Lib.hid (And.intro h2 b4)
          clear h2 b4 MR
          go_wp2_with fail
          go_ret2
          exact ⟨by rw [V.out.1]; rfl, V.out.2⟩
    · have hAt : ((val.length : Int) == (mt (trM L) (k : Int).toNat).d.val) = false := by
        rw [Int.toNat_natCast, trM_at, hvn]; simpa using hvl
      have hvl2 : ((m : Int) != (trAt L k).m.d.val) = true := by simpa using hvl
      rw [tPut_no (by rw [hm, hAt]; rfl)]
      clear h hm hn hb hob hv hov hvn hRaw hV hTF hnn hok hmb SK hAt hq hvl
      generalize (trAt L k).m.d.key = q at *
      generalize (trAt L k).m.d.hash = qh at *
      generalize (trAt L k).m.d.val = qv at *
      generalize (trAt L k).m.d.max = qm at *
      generalize (trAt L k).m.made = qd at *
      unfold PutQ
      dsimp only
      go_enter Try.func25, Try.ntmps25
      go_wp2_with fail
      refine (FI.out).mono ?_
      rintro e w1 ⟨rfl, b1⟩
      have V := Lib.hid b1
      clear b1
      go_wp2_with fail
      go_ret2
      exact ⟨rfl, HS.out _ (below_alloc V.out _)⟩

end Go.Proofs.Ytnnmcfklmmpdaaa
