/-
  Layer 10: bytes.HasPrefix; the program's Right, and the document's.
  Conditions: the rows are not of memory's size.
-/
import Derived.Test.YtlgpollefkkbdaaHelp4
namespace Go.Proofs.Ytlgpollefkkbdaa
open Go.RowKit
set_option maxRecDepth 100000
set_option linter.unusedVariables false
set_option linter.unusedSimpArgs false

/-- Whether s begins with p. -/
def hPre (s p : List Int) : Bool := decide (p.length ≤ s.length) && (s.take p.length == p)
/-- Whether a helper may be told that. -/
def hRt (i : Int) (told : List Int) : Bool := hOk i && hPre told (hS i).told
theorem hS_told (i : Int) : (hS i).told.length ≤ 4 ∧ OkB (hS i).told := by
  have k : ∀ l : List Int, (∀ x ∈ l, 0 ≤ x ∧ x ≤ 255) → OkB l := fun l h k hk => by
    unfold bAt
    rw [List.getD_eq_getElem?_getD, List.getElem?_eq_getElem hk]
    exact h _ (List.getElem_mem hk)
  rcases hS_ways i with rfl | rfl | rfl | rfl | rfl | rfl | rfl | h
  all_goals first | exact ⟨by decide, k _ (by decide)⟩ | skip
  rw [(hS_none h).1]
  exact ⟨by decide, k _ (by decide)⟩
theorem bytS_take {w : World} {A : Option Addr} {b : List Int} (h : BytS w A b) (m : Nat) : BytS w A (b.take m) := fun hl => by
  rw [List.length_take] at hl
  obtain ⟨g, o, e, hg, hc⟩ := h (by omega)
  refine ⟨g, o, e, hg, fun k hk => ?_⟩
  rw [List.length_take] at hk
  rw [bAt_take b m k (by omega)]
  exact hc k (by omega)
theorem okB_take {b : List Int} (h : OkB b) (m : Nat) : OkB (b.take m) := fun k hk => by
  rw [List.length_take] at hk
  rw [bAt_take b m k (by omega)]
  exact h k (by omega)

set_option maxHeartbeats 1000000 in
theorem bytes_HasPrefix (s p : List Int) (A B : Option Addr) (n m c d : Nat) (w : World) (hn : s.length = n) (hm : p.length = m) (hnc : n ≤ c) (hc : c ≤ maxLen) (hmd : m ≤ d) (h : BytS w A s) (h' : BytS w B p) (hs : OkB s) (hp : OkB p) :
    Calls Try.prog 19 #[.slice A n c, .slice B m d] w (Gives (.bool (hPre s p)) w) := by
  unfold hPre
  unfold maxLen at hc
  by_cases hlt : n < m
  · rw [decide_eq_false (by omega), Bool.false_and]
    clear h h' hn hm hs hp
    have hge : ¬ (m : Int) ≤ n := by omega
    have hge' : decide ((m : Int) ≤ n) = false := decide_eq_false hge
    go_enter Try.func19, Try.ntmps19
    go_wp2_with fail
    go_ret
    exact ⟨rfl, Below.refl _ _⟩
  · rw [decide_eq_true (by omega), Bool.true_and]
    have ht : (s.take p.length).length = m := by rw [List.length_take]; omega
    have E : ∀ c', Hid (Calls Try.prog 20 #[.slice A m c', .slice B m d] w (Gives (.bool (s.take p.length == p)) w)) := fun c' => Lib.hid (bytes_Equal (s.take p.length) p A B m m c' d w ht hm (bytS_take h _) h' (okB_take hs _) hp)
    generalize (s.take p.length == p) = sb at *
    clear h h' hn hm hs hp ht
    have hge : (m : Int) ≤ n := by omega
    have hmc : (m : Int) ≤ c := by omega
    cases A with
    | none =>
      go_enter Try.func19, Try.ntmps19
      go_wp2_with fail
      refine ((E _).out).mono ?_
      rintro e w1 ⟨rfl, b1⟩
      go_wp2_with fail
      go_ret
      exact ⟨rfl, b1⟩
    | some a =>
      go_enter Try.func19, Try.ntmps19
      go_wp2_with fail
      refine ((E _).out).mono ?_
      rintro e w1 ⟨rfl, b1⟩
      go_wp2_with fail
      go_ret
      exact ⟨rfl, b1⟩

set_option maxHeartbeats 1000000 in
theorem h10_Right (i : Int) (told : List Int) (A : Option Addr) (n c : Nat) (w : World) (hn : told.length = n) (hnc : n ≤ c) (hc : c ≤ maxLen) (h : BytS w A told) (hok : OkB told) :
    Calls Try.prog 15 #[.int .i64 i, .slice A n c] w (Gives (.bool (hRt i told)) w) := by
  have C := Lib.hid (h10_Sig i w)
  have HT := hS_told i
  unfold hRt
  generalize hS i = S at *
  generalize hOk i = ok at *
  obtain ⟨pre, tells, draws, most⟩ := S
  dsimp only at *
  cases ok
  · rw [Bool.false_and]
    clear h hok
    go_enter Try.func15, Try.ntmps15
    go_wp2_with fail
    refine (C.out).mono ?_
    rintro e w1 ⟨A1, c1, he, b1, hrow⟩
    unfold sgV at he
    subst he
    have V := Lib.hid (below_alloc b1 (.cells #[.slice A1 pre.length c1, .int .u8 tells, .bool draws, .int .u64 most] 26))
    clear b1 hrow HT
    generalize pre.length = tl at *
    go_wp2_with fail
    go_ret
    exact ⟨rfl, V.out⟩
  · rw [Bool.true_and]
    have HB := Lib.hid h
    have HO := Lib.hid hok
    have HN := Lib.hid hn
    clear h hok hn
    go_enter Try.func15, Try.ntmps15
    go_wp2_with fail
    refine (C.out).mono ?_
    rintro e w1 ⟨A1, c1, he, b1, hrow⟩
    unfold sgV at he
    subst he
    have V := Lib.hid (below_alloc b1 (.cells #[.slice A1 pre.length c1, .int .u8 tells, .bool draws, .int .u64 most] 26))
    obtain ⟨A2, c2, hv, k1, k2⟩ := own_slice hrow
    injection hv with hv1 hv2 hv3
    subst hv1 hv3
    have HP := Lib.hid (bytes_HasPrefix told pre A A1 n pre.length c c1 _ HN.out rfl hnc hc k1 (HB.out.after V.out) ((own_bytS rfl hrow).after (below_alloc (Below.refl _ _) (.cells #[.slice A1 pre.length c1, .int .u8 tells, .bool draws, .int .u64 most] 26))) HO.out HT.2)
    clear b1 hrow HT hv2
    generalize pre.length = tl at *
    generalize hPre told pre = sb at *
    go_wp2_with fail
    refine (HP.out).mono ?_
    rintro e w2 ⟨rfl, b2⟩
    have V2 := Lib.hid (below_next' V.out b2)
    go_wp2_with fail
    go_ret
    exact ⟨rfl, V2.out⟩

end Go.Proofs.Ytlgpollefkkbdaa
