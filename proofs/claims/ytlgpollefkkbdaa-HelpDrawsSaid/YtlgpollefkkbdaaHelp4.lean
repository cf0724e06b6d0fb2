/-
  Layer 10: whether two rows of numbers are one; bytes.Equal, bytes.HasPrefix.
  Conditions: the rows are not of memory's size.
-/
import Derived.Test.YtlgpollefkkbdaaHelp3
import Derived.Test.YtlgpollefkkbdaaByteStr
namespace Go.Proofs.Ytlgpollefkkbdaa
open Go.RowKit
set_option maxRecDepth 100000
set_option linter.unusedVariables false
set_option linter.unusedSimpArgs false

theorem byt_ne {a b : List Int} {k : Nat} (h : k < a.length) (hab : a.length = b.length) (hn : bAt a k ≠ bAt b k) : (a == b) = false := by
  rw [beq_eq_false_iff_ne]
  rintro rfl
  exact hn rfl
theorem beq_len {a b : List Int} (h : a.length ≠ b.length) : (a == b) = false := by
  rw [beq_eq_false_iff_ne]
  rintro rfl
  exact h rfl

set_option maxHeartbeats 1000000 in
theorem l10_nums (a b : List Int) (A B : Option Addr) (c d : Nat) (w : World) (hla : a.length ≤ 100000) (hlb : b.length ≤ 100000) (h : NumS w A a) (h' : NumS w B b) :
    Calls Try.prog 14 #[.slice A a.length c, .slice B b.length d] w (Gives (.bool (a == b)) w) := by
  by_cases hlm : a.length = b.length
  rotate_left 1
  · rw [beq_len hlm]
    have hne : ((a.length : Int) != (b.length : Int)) = true := by
      unfold bne
      rw [beq_false_of_ne (by omega)]
      rfl
    clear hlm h h'
    generalize a.length = n at *
    generalize b.length = n' at *
    go_enter Try.func14, Try.ntmps14
    go_wp2_with fail
    go_ret
    exact ⟨rfl, Below.refl _ _⟩
  have HI := Lib.hid h
  have HJ := Lib.hid h'
  have HM : Hid (b.length = a.length) := Lib.hid hlm.symm
  rw [← hlm]
  clear h h' hlm hlb
  generalize hn : a.length = n at *
  have HN := Lib.hid hn
  clear hn
  have hn0 : (0 : Int) ≤ n := by omega
  generalize hs : (a == b) = sb at *
  have HS := Lib.hid hs
  clear hs
  go_enter Try.func14, Try.ntmps14
  go_wp2_with fail
  go_loopw [13] (fun i wr => ∃ j : Nat, i = .int .i64 j ∧ j ≤ n ∧ Hid (∀ k, k < j → bAt a k = bAt b k) ∧ Hid (Below w.heap.size w wr)) (fun i wr => n - (intOf i).toNat)
  case atStart => exact ⟨0, rfl, by omega, Lib.hid (fun k hk => absurd hk (by omega)), Lib.hid (Below.refl _ _)⟩
  case round =>
    obtain ⟨j, rfl, hj, HK, Q⟩ := hrel
    have hj0 : (0 : Int) ≤ j := by omega
    by_cases hlt : (j : Int) < n
    · have LT : Hid (j < a.length) := Lib.hid (by rw [HN.out]; omega)
      have LT' : Hid (j < b.length) := Lib.hid (by rw [HM.out]; omega)
      obtain ⟨g, o, hA, hg, hc⟩ := (HI.out.after Q.out) (by have := LT.out; omega)
      obtain ⟨g', o', hB, hg', hd⟩ := (HJ.out.after Q.out) (by have := LT'.out; omega)
      have c0 := hc j LT.out
      have d0 := hd j LT'.out
      have HNO : Hid (bAt a j ≠ bAt b j → sb = false) := Lib.hid (fun he => HS.out.symm.trans (byt_ne LT.out (HN.out.trans HM.out.symm) he))
      have HYES : Hid (bAt a j = bAt b j → ∀ k, k < j + 1 → bAt a k = bAt b k) := Lib.hid (fun he k hk => by
        by_cases hkj : k = j
        · rw [hkj]; exact he
        · exact HK.out k (by omega))
      clear hc hd
      generalize bAt a j = x at *
      generalize bAt b j = y at *
      subst hA hB
      clear HI HJ
      by_cases z0 : x = y
      rotate_left 1
      · have E : Hid (sb = false) := Lib.hid (HNO.out z0)
        clear HNO HYES HK
        go_wp2_with fail
        go_quiet (fail)
        go_wp2
        go_ret
        exact ⟨by rw [E.out]; rfl, below_drewN Q.out _⟩
      have HR := Lib.hid (HYES.out z0)
      clear HNO HYES HK
      go_wp2_with fail
      go_quiet (fail)
      go_wp2
      go_round
      case rel => exact ⟨j + 1, by go_num, by omega, HR, Lib.hid (below_drewN Q.out _)⟩
      case measure => simp [intOf]; omega
    · have hjn : j = n := by omega
      have E : Hid (sb = true) := Lib.hid (HS.out.symm.trans (beq_iff_eq.mpr (byt_ext (HN.out.trans HM.out.symm) (fun k hk => HK.out k (by rw [hjn, ← HN.out]; exact hk)))))
      clear HK hjn
      go_wp2_with fail
      go_ret
      exact ⟨by rw [E.out]; rfl, Q.out⟩

set_option maxHeartbeats 1000000 in
theorem bytes_Equal (a b : List Int) (A B : Option Addr) (n m c d : Nat) (w : World) (hn : a.length = n) (hm : b.length = m) (h : BytS w A a) (h' : BytS w B b) (ha : OkB a) (hb : OkB b) :
    Calls Try.prog 20 #[.slice A n c, .slice B m d] w (Gives (.bool (a == b)) w) := by
  have h1 := str_bytS h c
  have h2 := str_bytS h' d
  rw [hn] at h1
  rw [hm] at h2
  have h3 := eq_str ha hb
  clear h h' hn hm
  generalize hs : (a == b) = sb at *
  have HS := Lib.hid hs
  clear hs
  cases sb
  · go_enter Try.func20, Try.ntmps20
    go_wp2_with fail
    go_ret
    exact ⟨rfl, Below.refl _ _⟩
  · go_enter Try.func20, Try.ntmps20
    go_wp2_with fail
    go_ret
    exact ⟨rfl, Below.refl _ _⟩

end Go.Proofs.Ytlgpollefkkbdaa
