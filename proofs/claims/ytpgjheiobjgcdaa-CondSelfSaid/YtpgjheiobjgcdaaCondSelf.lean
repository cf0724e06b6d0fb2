/-
  P3.1: what holds of a number and itself.
  Conditions: none beyond the row's own.
-/
import Derived.Test.YtpgjheiobjgcdaaCondShown
import Derived.Test.YtpgjheiobjgcdaaCondMath
import Derived.Test.YtpgjheiobjgcdaaMapBool
import Derived.LoopTactic
namespace Go.Proofs.Ytpgjheiobjgcdaa
open Go.RowKit Go.Maps
set_option linter.unusedVariables false

/-- What the law's map says, sorted by its keys. -/
def selfMap : DataW Unit := .map [(.int .u8 0, .lit (.bool true)), (.int .u8 16, .lit (.bool true)), (.int .u8 32, .lit (.bool false)), (.int .u8 48, .lit (.bool true)), (.int .u8 80, .lit (.bool false)), (.int .u8 96, .lit (.bool false)), (.int .u8 112, .lit (.bool true)), (.int .u8 160, .lit (.bool false)), (.int .u8 176, .lit (.bool true)), (.int .u8 192, .lit (.bool false)), (.int .u8 208, .lit (.bool true))]

theorem self_has {x : Int} {c : Bool} (h : has selfMap (.int .u8 x) = true) (hat : ∀ zd, selfMap.atKey (.int .u8 x) zd = .lit (.bool c)) :
    (x = 0 ∧ c = true) ∨ (x = 16 ∧ c = true) ∨ (x = 32 ∧ c = false) ∨ (x = 48 ∧ c = true) ∨ (x = 80 ∧ c = false) ∨ (x = 96 ∧ c = false) ∨ (x = 112 ∧ c = true) ∨ (x = 160 ∧ c = false) ∨ (x = 176 ∧ c = true) ∨ (x = 192 ∧ c = false) ∨ (x = 208 ∧ c = true) := by
  have hx : x = 0 ∨ x = 16 ∨ x = 32 ∨ x = 48 ∨ x = 80 ∨ x = 96 ∨ x = 112 ∨ x = 160 ∨ x = 176 ∨ x = 192 ∨ x = 208 := by
    simp [selfMap, has, Lit.sameKey] at h
    omega
  have h1 := hat .nil
  rcases hx with rfl | rfl | rfl | rfl | rfl | rfl | rfl | rfl | rfl | rfl | rfl
  all_goals
    cases c <;> simp [selfMap, DataW.atKey, Lit.sameKey] at h1 ⊢

/-- Of a number and itself. -/
theorem self_cond {x : Int} {c : Bool} (h : has selfMap (.int .u8 x) = true) (hat : ∀ zd, selfMap.atKey (.int .u8 x) zd = .lit (.bool c)) (wide : Bool) (a : Int) : condV x wide a a = c ∧ condE x = 0 ∧ 0 ≤ x ∧ x ≤ 255 := by
  rcases self_has h hat with ⟨rfl, rfl⟩ | ⟨rfl, rfl⟩ | ⟨rfl, rfl⟩ | ⟨rfl, rfl⟩ | ⟨rfl, rfl⟩ | ⟨rfl, rfl⟩ | ⟨rfl, rfl⟩ | ⟨rfl, rfl⟩ | ⟨rfl, rfl⟩ | ⟨rfl, rfl⟩ | ⟨rfl, rfl⟩
  all_goals
    refine ⟨?_, rfl, by decide, by decide⟩
    simp [cv_0, cv_16, cv_80, cv_32, cv_48, cv_160, cv_176, cv_96, cv_112, cv_192, cv_208]

theorem law_u8 : Keyed Try.prog 5 := int_keyed Try.underlying5

set_option maxHeartbeats 4000000 in
set_option maxRecDepth 100000 in
theorem self_walk (wide : Bool) (a : Int) (w : World) (ha : 0 ≤ a ∧ a ≤ 18446744073709551615) :
    Calls Try.prog 7 #[.bool wide, .int .u64 a] w (Fine w) := by
  have hmm := @run_makeMap Try.prog
  have hE := Lib.hid fun (op : Int) w => is_any op wide a a w ha ha
  have hS := Lib.hid fun w => is_to (op := 64) (wide := true) (v := !decide (a = 0)) (k := 0) w ha ha (by
    rw [cv_64]
    have e : a % aM true = a := Int.emod_eq_of_lt ha.1 (by show a < 18446744073709551616; omega)
    rw [e, Nat.and_self]
    exact congrArg _ (decide_eq_decide.mpr (by omega))) rfl
  go_enter Try.func7, Try.ntmps7
  go_wp2_with fail
  refine (cond_shown _).mono ?_; rintro e w0 ⟨rfl, b0⟩
  have hown0 : (w0.alloc (.map #[] 0)).ownsMap (H := Unit) Try.prog 5 (plainElem Try.prog 4) w0.heap.size 0 (.map []) := World.ownsMap_made _ _ _ _
  have g0 : Below w.heap.size w (w0.alloc (.map #[] 0)) := b0.alloc b0.size _
  have hB : w.heap.size ≤ w0.heap.size := b0.size
  go_wp2_with (first
    | (refine insert_own _ rfl _ _ _ 34 rfl 5 4 law_u8 Try.underlying34 _ w0.heap.size 0 _ rfl hown0 (by decide) (.int .u8 16) (.bool true) (.int .u8 16) rfl rfl (keyOf_int_mk Try.underlying5 (by decide)) (.lit (.bool true)) [] (plainElem_bool Try.underlying4 true) ?_; intro w1 hown1 hg1)
    | (refine insert_own _ rfl _ _ _ 34 rfl 5 4 law_u8 Try.underlying34 _ w0.heap.size 1 _ rfl hown1 (by decide) (.int .u8 48) (.bool true) (.int .u8 48) rfl rfl (keyOf_int_mk Try.underlying5 (by decide)) (.lit (.bool true)) [] (plainElem_bool Try.underlying4 true) ?_; intro w2 hown2 hg2)
    | (refine insert_own _ rfl _ _ _ 34 rfl 5 4 law_u8 Try.underlying34 _ w0.heap.size 2 _ rfl hown2 (by decide) (.int .u8 176) (.bool true) (.int .u8 176) rfl rfl (keyOf_int_mk Try.underlying5 (by decide)) (.lit (.bool true)) [] (plainElem_bool Try.underlying4 true) ?_; intro w3 hown3 hg3)
    | (refine insert_own _ rfl _ _ _ 34 rfl 5 4 law_u8 Try.underlying34 _ w0.heap.size 3 _ rfl hown3 (by decide) (.int .u8 112) (.bool true) (.int .u8 112) rfl rfl (keyOf_int_mk Try.underlying5 (by decide)) (.lit (.bool true)) [] (plainElem_bool Try.underlying4 true) ?_; intro w4 hown4 hg4)
    | (refine insert_own _ rfl _ _ _ 34 rfl 5 4 law_u8 Try.underlying34 _ w0.heap.size 4 _ rfl hown4 (by decide) (.int .u8 208) (.bool true) (.int .u8 208) rfl rfl (keyOf_int_mk Try.underlying5 (by decide)) (.lit (.bool true)) [] (plainElem_bool Try.underlying4 true) ?_; intro w5 hown5 hg5)
    | (refine insert_own _ rfl _ _ _ 34 rfl 5 4 law_u8 Try.underlying34 _ w0.heap.size 5 _ rfl hown5 (by decide) (.int .u8 0) (.bool true) (.int .u8 0) rfl rfl (keyOf_int_mk Try.underlying5 (by decide)) (.lit (.bool true)) [] (plainElem_bool Try.underlying4 true) ?_; intro w6 hown6 hg6)
    | (refine insert_own _ rfl _ _ _ 34 rfl 5 4 law_u8 Try.underlying34 _ w0.heap.size 6 _ rfl hown6 (by decide) (.int .u8 80) (.bool false) (.int .u8 80) rfl rfl (keyOf_int_mk Try.underlying5 (by decide)) (.lit (.bool false)) [] (plainElem_bool Try.underlying4 false) ?_; intro w7 hown7 hg7)
    | (refine insert_own _ rfl _ _ _ 34 rfl 5 4 law_u8 Try.underlying34 _ w0.heap.size 7 _ rfl hown7 (by decide) (.int .u8 32) (.bool false) (.int .u8 32) rfl rfl (keyOf_int_mk Try.underlying5 (by decide)) (.lit (.bool false)) [] (plainElem_bool Try.underlying4 false) ?_; intro w8 hown8 hg8)
    | (refine insert_own _ rfl _ _ _ 34 rfl 5 4 law_u8 Try.underlying34 _ w0.heap.size 8 _ rfl hown8 (by decide) (.int .u8 160) (.bool false) (.int .u8 160) rfl rfl (keyOf_int_mk Try.underlying5 (by decide)) (.lit (.bool false)) [] (plainElem_bool Try.underlying4 false) ?_; intro w9 hown9 hg9)
    | (refine insert_own _ rfl _ _ _ 34 rfl 5 4 law_u8 Try.underlying34 _ w0.heap.size 9 _ rfl hown9 (by decide) (.int .u8 96) (.bool false) (.int .u8 96) rfl rfl (keyOf_int_mk Try.underlying5 (by decide)) (.lit (.bool false)) [] (plainElem_bool Try.underlying4 false) ?_; intro w10 hown10 hg10)
    | (refine insert_own _ rfl _ _ _ 34 rfl 5 4 law_u8 Try.underlying34 _ w0.heap.size 10 _ rfl hown10 (by decide) (.int .u8 192) (.bool false) (.int .u8 192) rfl rfl (keyOf_int_mk Try.underlying5 (by decide)) (.lit (.bool false)) [] (plainElem_bool Try.underlying4 false) ?_; intro w11 hown11 hg11)
    | (at_range; refine wpList_range_own _ rfl _ 34 rfl 5 4 law_u8 Try.underlying34 _ w0.heap.size 11 selfMap rfl hown11 ?_; intro wr hrg0 hgr hsr)
    | fail)
  have hk0 : ∀ k, some w0.heap.size = some k → w.heap.size ≤ k := by intro k hk; cases hk; exact hB
  have s0 := g0
  have s1 := s0.grown hg1 s0.size hk0
  have s2 := s1.grown hg2 s1.size hk0
  have s3 := s2.grown hg3 s2.size hk0
  have s4 := s3.grown hg4 s3.size hk0
  have s5 := s4.grown hg5 s4.size hk0
  have s6 := s5.grown hg6 s5.size hk0
  have s7 := s6.grown hg7 s6.size hk0
  have s8 := s7.grown hg8 s7.size hk0
  have s9 := s8.grown hg9 s8.size hk0
  have s10 := s9.grown hg10 s9.size hk0
  have s11 := s10.grown hg11 s10.size hk0
  have gg : Below w.heap.size w wr := s11.grown hgr s11.size (fun k hk => by cases hk)
  have hr : w.heap.size ≤ w11.heap.size := s11.size
  generalize hrn : w11.heap.size = r at *
  have hl0 : ∀ kl, has selfMap kl = true → has selfMap kl = true := fun _ h => h
  generalize hcn : size selfMap = cn at hrg0
  clear hcn hsr hrn hgr hk0 g0 s0 s1 hg1 hown1 s2 hg2 hown2 s3 hg3 hown3 s4 hg4 hown4 s5 hg5 hown5 s6 hg6 hown6 s7 hg7 hown7 s8 hg8 hown8 s9 hg9 hown9 s10 hg10 hown10 s11 hg11 hown11 hown0
  go_frame
  go_loopw [6] (fun _ wx => ∃ (left : Lit → Bool) (cnt : Nat), wx.ranges Try.prog 5 (plainElem Try.prog 4) w0.heap.size r 11 selfMap left cnt ∧ (∀ kl, left kl = true → has selfMap kl = true) ∧ Below w.heap.size w wx)
    (fun _ wx => wx.rangeLeft w0.heap.size r)
  case atStart => exact ⟨_, _, hrg0, hl0, gg⟩
  case round =>
    obtain ⟨left, cnt, hrg, hl, hbw⟩ := hrel
    clear hrg0 hl0 gg
    go_wp2_with (first
      | (at_next; refine next_ranges_ib _ rfl _ rfl 5 4 .u8 law_u8 Try.underlying5 Try.underlying4 w0.heap.size r 11 selfMap _ _ rfl hrg (fun _ _ => ?_) (fun x c w1 cnt1 hwx hlx hat hrg1 hlt hg1 hs1 hen => ?_))
      | fail)
    · by_cases hz : a = 0
      · have hz1 : (a != 0) = false := by rw [hz]; rfl
        have hS2 : ∀ w, Calls _ _ _ _ _ := fun w => hS.out w
        rw [decide_eq_true hz] at hS2
        have HS := Lib.hid hS2
        clear hS2 hz
        go_wp2_with fail
        refine (HS.out _).mono ?_; rintro e w3 ⟨rfl, b3⟩
        go_wp2_with fail
        go_ret
        exact ⟨rfl, below_next' hbw b3⟩
      · have hz1 : (a != 0) = true := bne_iff_ne.mpr hz
        have hS2 : ∀ w, Calls _ _ _ _ _ := fun w => hS.out w
        rw [decide_eq_false hz] at hS2
        have HS := Lib.hid hS2
        clear hS2 hz
        go_wp2_with fail
        refine (HS.out _).mono ?_; rintro e w3 ⟨rfl, b3⟩
        go_wp2_with fail
        go_ret
        exact ⟨rfl, below_next' hbw b3⟩
    · obtain ⟨hc, he, hx1, hx2⟩ := self_cond (hl _ hlx) hat wide a
      have hE2 : ∀ w, Calls _ _ _ _ _ := fun w => hE.out x w
      rw [hc, he] at hE2
      have HE := Lib.hid hE2
      have hb1 : Below w.heap.size w w1 := hbw.grown hg1 hbw.size (fun k hk => by cases hk; exact hr)
      have hl1 : ∀ kl, (left kl && !kl.sameKey (.int .u8 x)) = true → has selfMap kl = true := fun kl h => hl kl (by simp at h; exact h.1)
      have HL := Lib.hid hl1
      clear hE2 hc he hat hwx hlx hl1 hl
      cases c
      all_goals
        go_wp2_with fail
        refine (HE.out _).mono ?_; rintro e w2 ⟨rfl, b2⟩
        have hrg2 := ranges_kept hrg1 b2
        go_wp2_with fail
        go_roundw
        case rel => exact ⟨_, cnt1, hrg2, HL.out, below_next' hb1 b2⟩
        case measure => rw [hrg2.left_eq, hrg.left_eq]; exact hlt

end Go.Proofs.Ytpgjheiobjgcdaa
