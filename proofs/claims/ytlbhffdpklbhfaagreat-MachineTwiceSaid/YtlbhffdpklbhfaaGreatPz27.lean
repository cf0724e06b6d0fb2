/-
  Texts, one behind the other: Mach5, Tab9.
  Conditions: those that each theorem states.
-/
import Derived.Test.YtlbhffdpklbhfaaGreatPz24
import Derived.Test.YtlbhffdpklbhfaaGreatPz25
import Derived.Test.YtlbhffdpklbhfaaGreatPz10
import Derived.Test.YtlbhffdpklbhfaaGreatPz26
import Derived.Test.YtlbhffdpklbhfaaGreatPz14
namespace Go.Proofs.YtlbhffdpklbhfaaGreat
open Go.RowKit
set_option maxRecDepth 100000
set_option linter.unusedVariables false
set_option linter.unusedSimpArgs false
theorem setR_ok {S : MS} (h : S.ok) (i : Nat) (hi : i ≤ 10) (n : Int) (b : Bool) (hn : 0 ≤ n ∧ n ≤ 18446744073709551615) : ({ S with r := S.r.set i (n, b) } : MS).ok := by
  refine ⟨h.l, h.chk, h.at_, by simp only [List.length_set]; exact h.n, fun j hj => ?_, h.D, h.dr, h.steps⟩
  have hl := h.n
  show 0 ≤ (rg (S.r.set i (n, b)) j).1 ∧ _
  unfold rg
  rw [List.getD_eq_getElem?_getD, List.getElem?_set]
  split
  · rw [if_pos (by omega)]
    exact hn
  · have := h.r j hj
    unfold rg at this
    rwa [List.getD_eq_getElem?_getD] at this
theorem sysX_free {w : World} {g : Nat} {S : MS} {H : Nat → Prop} (h : (sysX g S).R w H) (k : Nat) : w.frozen? ⟨g, k, none⟩ = false := by
  obtain ⟨A, _, hb, _, _⟩ := sysX_blk h
  exact Blk.free hb k
set_option maxHeartbeats 1000000 in
theorem m11_setReg (w : World) (g : Nat) (S : MS) (H : Nat → Prop) (i n : Int) (h : (sysX g S).R w H) (hi : 0 ≤ i ∧ i ≤ 10) (hn : 0 ≤ n ∧ n ≤ 18446744073709551615) :
    Calls Tryz.prog 27 #[.pointer (some ⟨g, 0, none⟩), .int .u8 i, .int .u64 n] w (OpS (sysX g (setR S i n)) H (.tuple #[]) w) := by
  obtain ⟨k, rfl, hk⟩ := reg_nat hi
  obtain ⟨c0, c1⟩ := sysX_reg h k hk
  have f0 := sysX_free h (5 + k * 2)
  have f1 := sysX_free h (5 + k * 2 + 1)
  have hok := sysX_ok h
  have T := Lib.hid (sysX_blkT (S' := setR S k n) (w' := (w.setCell ⟨g, 5 + k * 2, none⟩ (.int .u64 n)).setCell ⟨g, 5 + k * 2 + 1, none⟩ (.bool true)) h (setR_ok hok k hk n true hn) rfl rfl rfl rfl rfl rfl
    (fun A hb => by
      have := blk_list (blk_list hb (5 + k * 2) (.int .u64 n)) (5 + k * 2 + 1) (.bool true)
      rwa [xC_reg A S hok.n k (by omega)] at this)
    ((turn_g w g _ _).trans (turn_g _ g _ _) (fun x hx => .inl hx)))
  have k0 : (0 : Int) ≤ k := by omega
  have k1 : (k : Int) < 11 := by omega
  clear h hok hi
  go_enter Tryz.func27, Tryz.ntmps27
  go_wp2_with fail
  go_end0
  exact ⟨rfl, T.out⟩
theorem over_ok {S : MS} (h : S.ok) (b : Bool) : ({ S with over := b } : MS).ok := ⟨h.l, h.chk, h.at_, h.n, h.r, h.D, h.dr, h.steps⟩
def exitS (S : MS) : MS := if (rd S 0).2 == 0 then { S with over := true } else S
set_option maxHeartbeats 1000000 in
theorem m11_exit (w : World) (g : Nat) (S : MS) (H : Nat → Prop) (h : (sysX g S).R w H) :
    Calls Tryz.prog 65 #[.pointer (some ⟨g, 0, none⟩)] w (OpS (sysX g (exitS S)) H (.int .i64 (rd S 0).2) w) := by
  have C1 := Lib.hid (m11_readI w g S H 0 h ⟨by omega, by omega⟩)
  have hok := sysX_ok h
  have HH := Lib.hid fun u (b : Below w.heap.size w u) => (sysX g S).after h b
  have FR := Lib.hid fun u (b : Below w.heap.size w u) => sysX_free ((sysX g S).after h b) 28
  have CE := Lib.hid fun u (b : Below w.heap.size w u) => by
    obtain ⟨A, _, hb, _, hok⟩ := sysX_blk ((sysX g S).after h b)
    exact (xc_tail hb hok.n).2.1
  have T := Lib.hid fun u (b : Below w.heap.size w u) => Tn.before b (sysX_blkT (S' := { S with over := true }) (w' := u.setCell ⟨g, 28, none⟩ (.bool true)) ((sysX g S).after h b) (over_ok hok true) rfl rfl rfl rfl rfl rfl
    (fun A hb => by
      have := blk_list hb 28 (.bool true)
      rwa [xC_over A S hok.n true] at this) (turn_g u g _ _))
  unfold exitS
  clear h hok
  generalize hp : rd S 0 = p at *
  obtain ⟨a, ea⟩ := p
  clear hp
  dsimp only at *
  cases h1 : (ea == 0)
  · have n1 := ne_of_eq0 h1
    rw [if_neg Bool.false_ne_true]
    clear T h1
    go_enter Tryz.func65, Tryz.ntmps65
    go_wp2_with fail
    refine (C1.out).mono ?_
    rintro e w1 ⟨rfl, b1⟩
    have Q := Lib.hid (HH.out _ b1)
    have B := Lib.hid b1
    clear b1
    go_wp2_with fail
    go_ret
    exact ⟨rfl, Tn.before B.out (Tn.refl Q.out (Below.refl _ _))⟩
  · have h0 : ea = 0 := by simpa using h1
    subst h0
    rw [if_pos rfl]
    clear h1
    go_enter Tryz.func65, Tryz.ntmps65
    go_wp2_with fail
    refine (C1.out).mono ?_
    rintro e w1 ⟨rfl, b1⟩
    have Q := Lib.hid (T.out _ b1)
    have f0 := FR.out _ b1
    have c0 := CE.out _ b1
    clear b1
    go_wp2_with fail
    go_ret
    exact ⟨rfl, Q.out⟩
set_option maxHeartbeats 2000000 in
theorem m11_branch (w : World) (g : Nat) (S : MS) (H : Nat → Prop) (x : Ins) (v : Wh) (h : (sysX g S).R w H) (hr : RegOk x) (hx : x.ok) :
    Calls Tryz.prog 67 #[.pointer (some ⟨g, 0, none⟩), iV x, whV v, .int .i64 (nextOf S.l S.at_)] w (Gives (.tuple #[.int .i64 (mBranch S x v).1, .int .i64 (mBranch S x v).2]) w) := by
  have Q := Lib.hid (IDuo.new x v w)
  have C1 := Lib.hid fun u (b : Below w.heap.size w u) => m11_readI u g S H x.dst ((sysX g S).after h b) hr.1
  have C2 := Lib.hid fun u (b : Below w.heap.size w u) => m11_second u g S H x v ((sysX g S).after h b) hr.2 hx
  have C4 := Lib.hid fun u (b : Below w.heap.size w u) => m11_target u g S H ((sysX g S).after h b)
  have hok := sysX_ok h
  have C3 := Lib.hid fun u => is_any v.op v.wide (rd S x.dst).1 (mSec S x v).1 u (rd_rng hok _ hr.1) (mSec_rng hok x v hr.2)
  unfold mBranch
  clear h hr hx hok
  generalize nextOf S.l S.at_ = nx at *
  generalize tgOf S.l S.at_ = tg at *
  generalize mSec S x v = q at *
  generalize rd S x.dst = p at *
  obtain ⟨a, ea⟩ := p
  obtain ⟨b, eb⟩ := q
  dsimp only at *
  cases h1 : (ea == 0)
  · have n1 := ne_of_eq0 h1
    rw [if_neg Bool.false_ne_true]
    clear C2 C3 C4 h1
    go_enter Tryz.func67, Tryz.ntmps67
    go_wp2_with fail
    refine (C1.out _ Q.out.1).mono ?_
    rintro e w1 ⟨rfl, b1⟩
    replace Q := Lib.hid (Q.out.after b1)
    clear b1
    obtain ⟨p0, p1, p2, p3, p4⟩ := Q.out.2.1.cells
    obtain ⟨z0, z1, z2, z3, z4, z5⟩ := Q.out.2.2.cells
    have k1 := Q.out.2.1.lt
    have k2 := Q.out.2.2.lt
    go_wp2_with fail
    go_ret2
    exact ⟨rfl, Q.out.1⟩
  have n1 := ne_of_eq1 h1
  rw [if_pos rfl]
  clear h1
  cases h2 : (eb == 0)
  · have n2 := ne_of_eq0 h2
    rw [if_neg Bool.false_ne_true]
    clear C3 C4 h2
    go_enter Tryz.func67, Tryz.ntmps67
    go_wp2_with fail
    refine (C1.out _ Q.out.1).mono ?_
    rintro e w1 ⟨rfl, b1⟩
    replace Q := Lib.hid (Q.out.after b1)
    clear b1
    obtain ⟨p0, p1, p2, p3, p4⟩ := Q.out.2.1.cells
    obtain ⟨z0, z1, z2, z3, z4, z5⟩ := Q.out.2.2.cells
    have k1 := Q.out.2.1.lt
    have k2 := Q.out.2.2.lt
    go_wp2_with fail
    refine (C2.out _ Q.out.1).mono ?_
    rintro e w2 ⟨rfl, b2⟩
    replace Q := Lib.hid (Q.out.after b2)
    clear b2
    clear p0 p1 p2 p3 p4 z0 z1 z2 z3 z4 z5 k1 k2
    obtain ⟨p0, p1, p2, p3, p4⟩ := Q.out.2.1.cells
    obtain ⟨z0, z1, z2, z3, z4, z5⟩ := Q.out.2.2.cells
    have k1 := Q.out.2.1.lt
    have k2 := Q.out.2.2.lt
    go_wp2_with fail
    go_ret2
    exact ⟨rfl, Q.out.1⟩
  have n2 := ne_of_eq1 h2
  rw [if_pos rfl]
  clear h2
  generalize condV v.op v.wide a b = hv at *
  cases hv
  · rw [if_neg Bool.false_ne_true]
    clear C4
    go_enter Tryz.func67, Tryz.ntmps67
    go_wp2_with fail
    refine (C1.out _ Q.out.1).mono ?_
    rintro e w1 ⟨rfl, b1⟩
    replace Q := Lib.hid (Q.out.after b1)
    clear b1
    obtain ⟨p0, p1, p2, p3, p4⟩ := Q.out.2.1.cells
    obtain ⟨z0, z1, z2, z3, z4, z5⟩ := Q.out.2.2.cells
    have k1 := Q.out.2.1.lt
    have k2 := Q.out.2.2.lt
    go_wp2_with fail
    refine (C2.out _ Q.out.1).mono ?_
    rintro e w2 ⟨rfl, b2⟩
    replace Q := Lib.hid (Q.out.after b2)
    clear b2
    clear p0 p1 p2 p3 p4 z0 z1 z2 z3 z4 z5 k1 k2
    obtain ⟨p0, p1, p2, p3, p4⟩ := Q.out.2.1.cells
    obtain ⟨z0, z1, z2, z3, z4, z5⟩ := Q.out.2.2.cells
    have k1 := Q.out.2.1.lt
    have k2 := Q.out.2.2.lt
    go_wp2_with fail
    refine (C3.out _).mono ?_
    rintro e w3 ⟨rfl, b3⟩
    replace Q := Lib.hid (Q.out.after b3)
    clear b3
    go_wp2_with fail
    go_ret2
    exact ⟨rfl, Q.out.1⟩
  · rw [if_pos rfl]
    go_enter Tryz.func67, Tryz.ntmps67
    go_wp2_with fail
    refine (C1.out _ Q.out.1).mono ?_
    rintro e w1 ⟨rfl, b1⟩
    replace Q := Lib.hid (Q.out.after b1)
    clear b1
    obtain ⟨p0, p1, p2, p3, p4⟩ := Q.out.2.1.cells
    obtain ⟨z0, z1, z2, z3, z4, z5⟩ := Q.out.2.2.cells
    have k1 := Q.out.2.1.lt
    have k2 := Q.out.2.2.lt
    go_wp2_with fail
    refine (C2.out _ Q.out.1).mono ?_
    rintro e w2 ⟨rfl, b2⟩
    replace Q := Lib.hid (Q.out.after b2)
    clear b2
    clear p0 p1 p2 p3 p4 z0 z1 z2 z3 z4 z5 k1 k2
    obtain ⟨p0, p1, p2, p3, p4⟩ := Q.out.2.1.cells
    obtain ⟨z0, z1, z2, z3, z4, z5⟩ := Q.out.2.2.cells
    have k1 := Q.out.2.1.lt
    have k2 := Q.out.2.2.lt
    go_wp2_with fail
    refine (C3.out _).mono ?_
    rintro e w3 ⟨rfl, b3⟩
    replace Q := Lib.hid (Q.out.after b3)
    clear b3
    go_wp2_with fail
    refine (C4.out _ Q.out.1).mono ?_
    rintro e w4 ⟨rfl, b4⟩
    replace Q := Lib.hid (Q.out.after b4)
    clear b4
    go_wp2_with fail
    go_ret2
    exact ⟨rfl, Q.out.1⟩
theorem tPut_no {T : TT} {M : PM} {i : Int} {key val : List Int} {fl : Int} (h : (tMay T i key && ((val.length : Int) == (mt T i.toNat).d.val)) = false) : tPut T M i key val fl = ⟨T, M, 0, 1⟩ := by
  unfold tPut
  rw [h]
  rfl
set_option maxHeartbeats 8000000 in
theorem q9_Put (w : World) (gt gm : Nat) (T : TT) (M : PM) (F G : Nat → Prop) (i : Int) (key val : List Int) (B C : Option Addr) (n d m c : Nat) (fl : Int) (h : RepD w gt gm T M F G) (hT1 : T.length ≤ 1000)
    (hb : Keep (fun x => F x ∨ G x) w B key) (hob : OkB key) (hn : key.length = n) (hnd : n ≤ d) (hdm : d ≤ maxLen) (hv : Keep (fun x => F x ∨ G x) w C val) (hov : OkB val) (hvn : val.length = m) (hmc : m ≤ c) (hcm : c ≤ maxLen) (hfl : 0 ≤ fl ∧ fl ≤ 18446744073709551615) (hM : M.length ≤ 100000) :
    Calls Tryz.prog 51 #[.pointer (some ⟨gt, 0, none⟩), .int .i64 i, .slice B n d, .slice C m c, .int .u64 fl] w (PutQ gt gm F G (tPut T M i key val fl) w) := by
  have HS := Lib.hid fun w' (b : Below w.heap.size w w') => putN_same h b
  cases hm : tMay T i key
  · rw [tPut_no (by rw [hm]; rfl)]
    have FI := Lib.hid (q9_find_no w gt gm T F i key B n d h.maps hn hnd hm)
    rw [show kZ = .agg #[.bool false, .int .i64 0, .int .i64 0, .int .i64 0, .map none, .int .i64 0] from rfl] at FI
    clear h hm hn hb hob hv hov hvn
    unfold PutQ
    dsimp only
    go_enter Tryz.func51, Tryz.ntmps51
    go_wp2_with fail
    refine (FI.out).mono ?_
    rintro e w1 ⟨rfl, b1⟩
    have V := Lib.hid b1
    clear b1
    go_wp2_with fail
    go_ret2
    exact ⟨rfl, HS.out _ (below_alloc V.out _)⟩
  · obtain ⟨i0, i1, hq⟩ := may_yes hm
    obtain ⟨k, rfl⟩ : ∃ k : Nat, i = k := ⟨i.toNat, by omega⟩
    rw [Int.toNat_natCast] at hq
    have hok := h.maps.ok
    obtain ⟨vl, L, rfl, hV, hTF, hnn⟩ := id h.maps
    rw [trM_len] at i1 hT1
    have hk : k < L.length := by omega
    rw [trM_at] at hq
    have hRaw : RawD w gt gm vl L M F G := ⟨hV, h.mem, h.apart⟩
    have FI := Lib.hid (q9_find_yes w gt gm vl L F k key B n d h.maps hV hk hn hnd (by omega))
    obtain ⟨mb, hmb⟩ := hV.mapV hk
    have SK := Lib.hid (hV.seeK (d := d) hok hk hmb (hb.at_) hob hn (by omega))
    unfold kV at FI
    rw [hmb] at FI
    by_cases hvl : (m : Int) = (trAt L k).m.d.val
    · have hAt : ((val.length : Int) == (mt (trM L) (k : Int).toNat).d.val) = true := by
        rw [Int.toNat_natCast, trM_at, hvn, hvl]; simp
      have hvl2 : ((m : Int) != (trAt L k).m.d.val) = false := by rw [hvl]; simp
      by_cases hf : 2 < fl
      · have hR : tPut (trM L) M k key val fl = ⟨trM L, M, minusI 22, 0⟩ := by
          unfold tPut
          rw [hm, hAt]
          simp only [Bool.and_self, if_true]
          rw [if_pos hf]
        rw [hR, show minusI 22 = 18446744073709551594 from rfl]
        clear h hm hn hb hob hv hov hvn hRaw hV hTF hnn hok hmb SK hAt hq hR hvl
        generalize (trAt L k).m.d.key = q at *
        generalize (trAt L k).m.d.hash = qh at *
        generalize (trAt L k).m.d.val = qv at *
        generalize (trAt L k).m.d.max = qm at *
        generalize (trAt L k).m.made = qd at *
        unfold PutQ
        dsimp only
        go_enter Tryz.func51, Tryz.ntmps51
        go_wp2_with fail
        refine (FI.out).mono ?_
        rintro e w1 ⟨rfl, b1⟩
        have V := Lib.hid b1
        clear b1
        go_wp2_with fail
        go_ret2
        exact ⟨rfl, HS.out _ (below_alloc V.out _)⟩
      · have hf' : fl ≤ 2 := by omega
        cases hs : tFind (trAt L k).m.L key with
        | some s =>
          have s1 : s < 1024 := find_small hok (i := k) (by rw [trM_len]; exact hk) (key := key) (s := s) (by rw [trM_at]; exact hs)
          have hR : tPut (trM L) M k key val fl = ⟨trM L, if fl = 1 then M else tFill M k s 0 val, if fl = 1 then minusI 17 else 0, 0⟩ := by
            unfold tPut
            rw [hm, hAt]
            simp only [Bool.and_self, if_true]
            rw [if_neg hf, Int.toNat_natCast, trM_at, hs]
            simp only
            split <;> rfl
          rw [hR]
          have hm1 : m ≤ 1000 := by
            have hg := (hok k (by rw [trM_len]; exact hk)).good
            rw [trM_at] at hg
            unfold Df.good at hg
            simp only [Bool.and_eq_true, decide_eq_true_eq] at hg
            omega
          have AR : Hid (∀ u, Calls Tryz.prog 98 #[.int .i64 (k : Int), .int .i64 (s : Int)] u (Gives (.int .i64 (tArea k s)) u)) := Lib.hid fun u => q9_Area k s u (by omega) (by omega)
          have CH : Hid (∀ u, Below w.heap.size w u → Calls Tryz.prog 97 #[.pointer (some ⟨gt, 0, none⟩), .int .i64 (tArea k s), .slice C m c, .int .u64 fl] u
              (fun e w' => e = .returned (.int .u64 (if fl = 1 then minusI 17 else 0)) ∧ PutN w gt gm F G (trM L) (if fl = 1 then M else tFill M k s 0 val) w')) := Lib.hid fun u b =>
            (q9_change u gt gm vl L M F G k s val C m c fl (hRaw.after b) (by omega) (by omega) (hv.on (Turn.of_below b) (fun x hx => .inl hx)) hov hvn hmc hm1 hfl).mono fun e w' ⟨he, F', G', q⟩ => ⟨he, (rawN_same hTF hnn q).before b⟩
          have LK0 := Lib.hid fun u (b : Below w.heap.size w u) => SK.out.look u b
          have ST0 := Lib.hid fun u (b : Below w.heap.size w u) => SK.out.str u b
          rw [hs] at LK0
          rw [show (((some s : Option Nat).getD 0 : Nat) : Int) = (s : Int) from rfl, show (some s : Option Nat).isSome = true from rfl] at LK0
          clear h hm hn hb hob hv hov hvn hRaw hV hTF hnn hok hmb SK hAt hq hR hvl hs HS
          generalize (if fl = 1 then M else tFill M k s 0 val) = M' at *
          generalize (if fl = 1 then minusI 17 else 0) = rr at *
          generalize tArea k s = ar at *
          generalize (trAt L k).m.d.key = q at *
          generalize (trAt L k).m.d.hash = qh at *
          generalize (trAt L k).m.d.val = qv at *
          generalize (trAt L k).m.d.max = qm at *
          generalize (trAt L k).m.made = qd at *
          unfold PutQ
          dsimp only
          go_enter Tryz.func51, Tryz.ntmps51
          go_wp2_with fail
          refine (FI.out).mono ?_
          rintro e w1 ⟨rfl, b1⟩
          have V := Lib.hid (below_alloc b1 (.cells #[.bool qh, .int .i64 q, .int .i64 qv, .int .i64 qm, .map mb, .int .i64 qd] 117))
          have LK := LK0.out _ V.out
          have ST := ST0.out _ V.out
          clear b1 LK0 ST0
          go_wp2_with fail
          refine (AR.out _).mono ?_
          rintro e w3 ⟨rfl, b3⟩
          replace V := Lib.hid (below_next' V.out b3)
          clear b3 LK ST
          go_wp2_with fail
          refine (CH.out _ V.out).mono ?_
          rintro e w4 ⟨rfl, b4⟩
          replace V := Lib.hid b4
          clear b4
          go_wp2_with fail
          go_ret2
          exact ⟨rfl, V.out⟩
        | none =>
          have MR : Hid (∀ u, Below w.heap.size w u → Calls Tryz.prog 99 #[.pointer (some ⟨gt, 0, none⟩), .int .i64 (k : Int), .slice B n d, .slice C m c, .int .u64 fl] u (fun e w' => e = .returned (.int .u64 (tPut (trM L) M k key val fl).n) ∧ (tPut (trM L) M k key val fl).e = 0 ∧ PutN w gt gm F G (tPut (trM L) M k key val fl).T (tPut (trM L) M k key val fl).M w')) := Lib.hid fun u b =>
            (q9_more u gt gm vl L M F G k key val B C n d m c fl (hRaw.after b) hTF hnn hk hT1 hs (hb.on (Turn.of_below b) (fun x hx => .inl hx)) hob hn (by omega) hnd hdm (hv.on (Turn.of_below b) (fun x hx => .inl hx)) hov hvn hvl hmc hcm hM ⟨hfl.1, hf'⟩ _ rfl).mono fun e w' ⟨h1, h2, h3⟩ => ⟨h1, h2, h3.before b⟩
          have LK0 := Lib.hid fun u (b : Below w.heap.size w u) => SK.out.look u b
          have ST0 := Lib.hid fun u (b : Below w.heap.size w u) => SK.out.str u b
          rw [hs] at LK0
          rw [show (((none : Option Nat).getD 0 : Nat) : Int) = 0 from rfl, show (none : Option Nat).isSome = false from rfl] at LK0
          clear h hm hn hb hob hv hov hvn hRaw hV hTF hnn hok hmb SK hAt hq hvl hs HS
          generalize tPut (trM L) M k key val fl = R at *
          obtain ⟨RT, RM, Rn, Re⟩ := R
          generalize (trAt L k).m.d.key = q at *
          generalize (trAt L k).m.d.hash = qh at *
          generalize (trAt L k).m.d.val = qv at *
          generalize (trAt L k).m.d.max = qm at *
          generalize (trAt L k).m.made = qd at *
          unfold PutQ
          dsimp only at MR ⊢
          go_enter Tryz.func51, Tryz.ntmps51
          go_wp2_with fail
          refine (FI.out).mono ?_
          rintro e w1 ⟨rfl, b1⟩
          have V := Lib.hid (below_alloc b1 (.cells #[.bool qh, .int .i64 q, .int .i64 qv, .int .i64 qm, .map mb, .int .i64 qd] 117))
          have LK := LK0.out _ V.out
          have ST := ST0.out _ V.out
          clear b1 LK0 ST0
          go_wp2_with fail
          refine (MR.out _ V.out).mono ?_
          rintro e w4 ⟨rfl, h2, b4⟩
          replace V := Lib.hid (And.intro h2 b4)
          clear h2 b4 MR
          go_wp2_with fail
          go_ret2
          exact ⟨by rw [V.out.1]; rfl, V.out.2⟩
    · have hAt : ((val.length : Int) == (mt (trM L) (k : Int).toNat).d.val) = false := by
        rw [Int.toNat_natCast, trM_at, hvn]; simpa using hvl
      have hvl2 : ((m : Int) != (trAt L k).m.d.val) = true := by simpa using hvl
      rw [tPut_no (by rw [hm, hAt]; rfl)]
      clear h hm hn hb hob hv hov hvn hRaw hV hTF hnn hok hmb SK hAt hq hvl
      generalize (trAt L k).m.d.key = q at *
      generalize (trAt L k).m.d.hash = qh at *
      generalize (trAt L k).m.d.val = qv at *
      generalize (trAt L k).m.d.max = qm at *
      generalize (trAt L k).m.made = qd at *
      unfold PutQ
      dsimp only
      go_enter Tryz.func51, Tryz.ntmps51
      go_wp2_with fail
      refine (FI.out).mono ?_
      rintro e w1 ⟨rfl, b1⟩
      have V := Lib.hid b1
      clear b1
      go_wp2_with fail
      go_ret2
      exact ⟨rfl, HS.out _ (below_alloc V.out _)⟩
end Go.Proofs.YtlbhffdpklbhfaaGreat
