/-
  Layer 7: a program as bytes, as the program makes them.
  Conditions: the numbers fit their kinds.
-/
import Derived.Test.YtplndcjmbgkcjaaCode10
import Derived.Test.YtplndcjmbgkcjaaTakeAt
import Derived.Test.YtplndcjmbgkcjaaCodeEnc
import Derived.LoopTactic
namespace Go.Proofs.Ytplndcjmbgkcjaa
open Go.RowKit
set_option linter.unusedVariables false
set_option linter.unusedSimpArgs false

theorem encI_ok (x : Ins) : (encI x).length = 8 := rfl
theorem eight_at {w : World} {g : Nat} {x : Ins} (h : w.heap[g]? = some (.cells #[.int .u8 x.op, .int .u8 (x.dst + 16 * x.src), .int .u8 (x.off % 256), .int .u8 (x.off / 256 % 256), .int .u8 (x.imm % 256), .int .u8 (x.imm / 256 % 256), .int .u8 (x.imm / 65536 % 256), .int .u8 (x.imm / 16777216 % 256)] 5 (0, 0))) :
    ∀ j u, (byC (encI x))[j]? = some u → w.cell? ((⟨g, 0, none⟩ : Addr).add j) = some u := by
  intro j u hu
  have hadd : (⟨g, 0, none⟩ : Addr).add j = ⟨g, j, none⟩ := by unfold Addr.add; split <;> simp_all
  rw [hadd, cell_of_row w g j _ 5 (0, 0) h, ← hu]
  simp [byC, encI]
theorem own_slice {w : World} {base size n : Nat} {e : TypeId} {v : Value} {xs : List Value} (h : w.ownsRow base e size v n xs) : ∃ A c, v = .slice A n c ∧ n ≤ c ∧ c ≤ maxLen := by
  rcases h.2 with ⟨rfl, rfl⟩ | ⟨g, cap, cur, rfl, _, _, h1, h2, _⟩
  · exact ⟨none, 0, rfl, Nat.le_refl _, Nat.zero_le _⟩
  · exact ⟨_, cap, rfl, h1, h2⟩
theorem below_own {w0 w w' : World} {base size n : Nat} {e : TypeId} {v : Value} {xs : List Value} (B : Below base w0 w) (h : w.ownsRow base e size v n xs) (hb : base ≤ w.heap.size) (hg : w.grownBy w' v.ownBlock) : Below base w0 w' :=
  B.grown hg hb (fun k hk => (h.lt k hk).1)

set_option maxRecDepth 100000 in
set_option maxHeartbeats 2000000 in
theorem c7_Encode_no (l : List Ins) (A : Option Addr) (c : Nat) (w : World) (hl : l.length ≤ 100000) (h : InsS w A l) (hx : OkAll l) (a r : Int) (ha : chk l = (a, r)) (hr : (r == 0) = false) :
    Calls Try.prog 18 #[.slice A l.length c] w (EncW ([], a, r) w) := by
  have CK : Hid (∀ w, InsS w A l → Calls Try.prog 16 #[.slice A l.length c] w (Gives (.tuple #[.int .i64 a, .int .i64 r]) w)) := Lib.hid fun w h => by
    have := c7_Check l A c w hl h hx
    rw [ha] at this
    exact this
  have HI := Lib.hid h
  clear h hx ha
  have n0 : (r != 0) = true := by unfold bne; rw [hr]; rfl
  clear hr
  go_enter Try.func18, Try.ntmps18
  go_wp2_with fail
  refine (CK.out _ HI.out).mono ?_
  rintro e w8 ⟨rfl, b8⟩
  have V : Hid (EncW ([], a, r) w (.returned (.tuple #[.slice none 0 0, .int .i64 a, .int .i64 r])) w8) := Lib.hid ⟨none, 0, rfl, BytS.none_ _ _, Nat.le_refl _, Nat.zero_le _, b8⟩
  clear b8
  go_wp2_with fail
  go_ret3
  exact V.out

set_option maxRecDepth 100000 in
set_option maxHeartbeats 2000000 in
theorem c7_Encode_yes (l : List Ins) (A : Option Addr) (c : Nat) (w : World) (hl : l.length ≤ 100000) (h : InsS w A l) (hx : OkAll l) (a : Int) (ha : chk l = (a, 0)) :
    Calls Try.prog 18 #[.slice A l.length c] w (EncW (encL l, 0, 0) w) := by
  have CK : Hid (∀ w, InsS w A l → Calls Try.prog 16 #[.slice A l.length c] w (Gives (.tuple #[.int .i64 a, .int .i64 0]) w)) := Lib.hid fun w h => by
    have := c7_Check l A c w hl h hx
    rw [ha] at this
    exact this
  have RG := Lib.hid (chk_regs (l := l) (by rw [ha]))
  have HX := Lib.hid hx
  have HI := Lib.hid h
  clear h hx ha
  obtain ⟨i0, hi, hz, h1, h2⟩ := info_parts (show (Try.prog.info? 5).map (fun i => (i.zero, i.size, i.bytes)) = some (some (.int .u8 0), 1, 1) by kernel_rfl)
  have HINF := Lib.hid (And.intro hi (And.intro hz (And.intro h1 h2)))
  clear hi hz h1 h2
  generalize hn : l.length = n at *
  have HN := Lib.hid hn
  clear hn
  have hn0 : (0 : Int) ≤ n := by omega
  go_enter Try.func18, Try.ntmps18
  go_wp2_with fail
  refine (CK.out _ HI.out).mono ?_
  rintro e w5 ⟨rfl, b5⟩
  have V := Lib.hid b5
  clear b5 CK
  have eq8 : ((n * 8 : Nat) : Int) = (n : Int) * 8 := by omega
  obtain ⟨w6, hmk, hown, hgr⟩ := run_make_own (P := Try.prog) w5 w.heap.size 36 5 i0 (.int .u8 0) 1 Try.underlying36 HINF.out.1 HINF.out.2.1 HINF.out.2.2.1 .i64 .i64 (n * 8) (by rw [HINF.out.2.2.2]; omega) (by unfold maxLen; omega) V.out.size
  rw [eq8] at hmk
  have Q0 : Hid (Below w.heap.size w w6 ∧ w6.ownsRow w.heap.size 5 1 (.slice (some ⟨w5.heap.size, 0, none⟩) 0 (n * 8)) (0 * 8) (byC (encL (l.take 0)))) := Lib.hid ⟨V.out.grown hgr V.out.size (fun k hk => by cases hk), hown⟩
  clear hown hgr V eq8
  go_wp2_with fail
  clear hmk
  go_loopw [7, 27] (fun s i wr => ∃ (j : Nat), i = .int .i64 j ∧ j ≤ n ∧ Hid (Below w.heap.size w wr ∧ wr.ownsRow w.heap.size 5 1 s (j * 8) (byC (encL (l.take j))))) (fun s i wr => n - (intOf i).toNat)
  case atStart => exact ⟨0, rfl, by omega, Q0⟩
  case round =>
    clear Q0
    obtain ⟨j, rfl, hj, Q⟩ := hrel
    have hj0 : (0 : Int) ≤ j := by omega
    by_cases hlt : (j : Int) < n
    · have LT : Hid (j < l.length) := Lib.hid (by rw [HN.out]; omega)
      obtain ⟨gi, oi, hA, hgi, hc⟩ := (HI.out.after Q.out.1).at_ LT.out
      have HC := Lib.hid hc
      have hz' := Q.out.1.size
      clear hc
      obtain ⟨r1, r2⟩ := RG.out j (by rw [← HN.out]; exact LT.out)
      have hok := HX.out j LT.out
      have r3 := hok.2.1.1
      have r4 := hok.2.2.1.1
      have ET := Lib.hid (encL_take l LT.out)
      generalize iAt l j = x at *
      have PU := Lib.hid fun w => put_ok x.op x.dst x.src x.off x.imm w r3 r1 r4 r2
      clear hok r1 r2 r3 r4
      subst hA
      obtain ⟨c0, c1, c2, c3, c4⟩ := HC.out
      go_wp2_with fail
      clear c0 c1 c2 c3 c4
      refine (PU.out _).mono ?_
      rintro e w7 ⟨g3, rfl, hg3, b7, h7⟩
      replace Q : Hid (Below w.heap.size w w7 ∧ w7.ownsRow w.heap.size 5 1 u7 (j * 8) (byC (encL (l.take j)))) := Lib.hid ⟨below_next' (below_alloc Q.out.1 (.cells (insCells x) 24)) b7, own_after (own_after Q.out.2 (below_alloc (Below.refl _ _) (.cells (insCells x) 24))) b7⟩
      have H7 := Lib.hid h7
      have hz7 := Q.out.1.size
      clear b7 hg3 h7 hz'
      go_wp2_with ((at_builtin; refine wpList_append_own _ rfl (.tmp 36) (.tmp 37) _ rfl w.heap.size 5 i0 (.int .u8 0) 1 1 Try.underlying36 HINF.out.1 HINF.out.2.1 HINF.out.2.2.1 HINF.out.2.2.2 rfl (by omega) u7 (j * 8) (byC (encL (l.take j))) rfl Q.out.2 ⟨g3, 0, none⟩ 8 8 (byC (encI x)) rfl rfl (eight_at H7.out) (byC_one _) (by unfold maxLen; omega) (by omega) Q.out.1.size ?_; intro v1 w1 hown1 hg1 hn1))
      have QS : Hid (Below w.heap.size w w1 ∧ w1.ownsRow w.heap.size 5 1 v1 ((j + 1) * 8) (byC (encL (l.take (j + 1))))) := Lib.hid ⟨below_own Q.out.1 Q.out.2 Q.out.1.size hg1, by
        rw [ET.out, byC_app, show (j + 1) * 8 = j * 8 + 8 by omega]
        exact hown1⟩
      clear hown1 hg1 hn1 hz7
      go_wp2_with fail
      go_round
      case rel => exact ⟨j + 1, by go_num, by omega, QS⟩
      case measure => simp [intOf]; omega
    · have hjn : j = n := by omega
      have e2 : l.take j = l := by rw [hjn, ← HN.out]; exact List.take_length
      have e3 : j * 8 = (encL l).length := by rw [encL_len, hjn, HN.out]; omega
      rw [e2, e3] at Q
      obtain ⟨A', c', hv, k1, k2⟩ := own_slice Q.out.2
      subst hv
      have W : Hid (EncW (encL l, 0, 0) w (.returned (.tuple #[.slice A' (encL l).length c', .int .i64 0, .int .i64 0])) wr) := Lib.hid ⟨A', c', rfl, own_bytS rfl Q.out.2, k1, k2, Q.out.1⟩
      clear Q e2 e3 hjn k1 k2
      go_wp2_with fail
      go_ret3
      exact W.out

theorem c7_Encode (l : List Ins) (A : Option Addr) (c : Nat) (w : World) (hl : l.length ≤ 512000) (hl' : l.length ≤ 100000) (h : InsS w A l) (hx : OkAll l) :
    Calls Try.prog 18 #[.slice A l.length c] w (EncW (encR l) w) := by
  unfold encR
  by_cases hr : (chk l).2 = 0
  · rw [if_pos hr]
    exact c7_Encode_yes l A c w hl' h hx (chk l).1 (by rw [← hr])
  · rw [if_neg hr]
    exact c7_Encode_no l A c w hl' h hx _ _ rfl (beq_false_of_ne hr)

end Go.Proofs.Ytplndcjmbgkcjaa
