/-
  Texts, one behind the other: Flat, Tab10, Tab11, TabNew, Tab12.
  Conditions: those that each theorem states.
-/
import Derived.Test.YtlbhffdpklbhfaaGreatPz1
import Derived.Test.YtlbhffdpklbhfaaGreatPz8
import Derived.Test.YtlbhffdpklbhfaaGreatPz6
import Derived.Test.YtlbhffdpklbhfaaGreatPz2
import Derived.Test.YtlbhffdpklbhfaaGreatPz14
namespace Go.Proofs.YtlbhffdpklbhfaaGreat
open Go Go.RowKit
set_option maxRecDepth 100000
set_option linter.unusedVariables false
set_option linter.unusedSimpArgs false
section
variable {α : Type} {c : α → List Value} {s : Nat}
theorem flat_len (hs : ∀ x, (c x).length = s) (L : List α) : (L.flatMap c).length = L.length * s := by
  induction L with
  | nil => simp
  | cons x L ih =>
    rw [List.flatMap_cons, List.length_append, ih, hs, List.length_cons, Nat.succ_mul]
    omega
theorem flat_at (hs : ∀ x, (c x).length = s) (d : α) (L : List α) (k r : Nat) (hk : k < L.length) (hr : r < s) : (L.flatMap c)[k * s + r]? = (c (L.getD k d))[r]? := by
  induction L generalizing k with
  | nil => simp at hk
  | cons x L ih =>
    rw [List.flatMap_cons]
    cases k with
    | zero =>
      rw [List.getElem?_append_left (by rw [hs]; omega)]
      simp
    | succ k =>
      rw [List.getElem?_append_right (by rw [hs, Nat.succ_mul]; omega), hs]
      have := ih k (by simpa using hk)
      rw [show (k + 1) * s + r - s = k * s + r by rw [Nat.succ_mul]; omega, this]
      simp
theorem flat_news (hs : ∀ x, (c x).length = s) (h0 : 0 < s) (d : α) {L : List α} {w : World} {g o : Nat} (h : ∀ k, k < L.length → ∀ r, r < s → w.cell? ⟨g, o + k * s + r, none⟩ = (c (L.getD k d))[r]?) :
    ∀ j u, (L.flatMap c)[j]? = some u → w.cell? ((⟨g, o, none⟩ : Addr).add j) = some u := by
  intro j u hu
  have hadd : (⟨g, o, none⟩ : Addr).add j = ⟨g, o + j, none⟩ := by unfold Addr.add; split <;> simp_all
  have hj : j < L.length * s := by
    rcases Nat.lt_or_ge j (L.length * s) with k | k
    · exact k
    · rw [List.getElem?_eq_none (by rw [flat_len hs]; exact k)] at hu; cases hu
  have e1 : j = j / s * s + j % s := by rw [Nat.mul_comm]; exact (Nat.div_add_mod j s).symm
  have hk : j / s < L.length := (Nat.div_lt_iff_lt_mul h0).2 hj
  have hr := Nat.mod_lt j h0
  have q := h (j / s) hk (j % s) hr
  have q2 := flat_at hs d L (j / s) (j % s) hk hr
  rw [← e1, hu] at q2
  rw [hadd, show o + j = o + j / s * s + j % s by omega, q, ← q2]
theorem own_flat (hs : ∀ x, (c x).length = s) (d : α) {L : List α} {w : World} {B : Nat} {e : TypeId} {A : Option Addr} {n cp : Nat} (ho : w.ownsRow B e s (.slice A n cp) n (L.flatMap c)) (hn : n = L.length) (h0 : 0 < L.length) :
    ∃ g, A = some ⟨g, 0, none⟩ ∧ g < w.heap.size ∧ ∀ k, k < L.length → ∀ r, r < s → w.cell? ⟨g, 0 + k * s + r, none⟩ = (c (L.getD k d))[r]? := by
  obtain ⟨g, rfl, _, hg⟩ := own_addr ho (by omega)
  refine ⟨g, rfl, hg, fun k hk r hr => ?_⟩
  have hlt : k * s + r < n * s := by
    have : (k + 1) * s ≤ n * s := Nat.mul_le_mul_right s (by omega)
    rw [Nat.succ_mul] at this
    omega
  rw [Nat.zero_add, ho.cellAt _ hlt, flat_at hs d L k r hk hr]
end
end Go.Proofs.YtlbhffdpklbhfaaGreat
namespace Go.Proofs.YtlbhffdpklbhfaaGreat
open Go.RowKit
set_option maxRecDepth 100000
set_option linter.unusedVariables false
set_option linter.unusedSimpArgs false
def gK (d : Df) : Bool := d.key == 4 || (d.hash && decide (1 ≤ d.key) && decide (d.key ≤ 16))
def gV (d : Df) : Bool := decide (8 ≤ d.val) && decide (d.val ≤ 64) && (d.val % 8 == 0)
def gM (d : Df) : Bool := decide (1 ≤ d.max) && decide (d.max ≤ 16)
theorem good_is (d : Df) : d.good = (gK d && gV d && gM d) := by
  unfold Df.good gK gV gM
  cases d.hash
  · simp only [Bool.false_eq_true, if_false, Bool.false_and, Bool.or_false, Bool.and_assoc]
  · simp only [if_true, Bool.true_and, Bool.and_assoc]
    by_cases h : d.key = 4
    · rw [h]; rfl
    · have : (d.key == 4) = false := by simpa using h
      rw [this]; simp [Bool.and_assoc]
set_option maxHeartbeats 8000000 in
theorem q9_isWrong (d : Df) (w : World) : Calls Tryz.prog 94 #[.agg #[.bool d.hash, .int .i64 d.key, .int .i64 d.val, .int .i64 d.max]] w (Gives (.bool (!d.good)) w) := by
  obtain ⟨h, k, v, m⟩ := d
  have HG : Hid ((!(Df.good ⟨h, k, v, m⟩)) = !(gK ⟨h, k, v, m⟩ && gV ⟨h, k, v, m⟩ && gM ⟨h, k, v, m⟩)) := Lib.hid (by rw [good_is])
  have KC : ((k == 4) = true ∧ Hid (gK ⟨h, k, v, m⟩ = true)) ∨ ((k == 4) = false ∧ h = false ∧ Hid (gK ⟨h, k, v, m⟩ = false)) ∨ ((k == 4) = false ∧ h = true ∧ k < 1 ∧ Hid (gK ⟨h, k, v, m⟩ = false)) ∨ ((k == 4) = false ∧ h = true ∧ (1 ≤ k ∧ k ≤ 16) ∧ Hid (gK ⟨h, k, v, m⟩ = true)) ∨ ((k == 4) = false ∧ h = true ∧ (1 ≤ k ∧ 16 < k) ∧ Hid (gK ⟨h, k, v, m⟩ = false)) := by
    unfold gK
    cases h4 : (k == 4)
    · cases h
      · exact .inr (.inl ⟨rfl, rfl, Lib.hid (by simp [h4])⟩)
      · rcases int_lt_or k 1 with a | a
        · exact .inr (.inr (.inl ⟨rfl, rfl, a, Lib.hid (by simp [h4]; omega)⟩))
        · rcases int_lt_or 16 k with b | b
          · exact .inr (.inr (.inr (.inr ⟨rfl, rfl, ⟨a, b⟩, Lib.hid (by simp [h4]; omega)⟩)))
          · exact .inr (.inr (.inr (.inl ⟨rfl, rfl, ⟨a, b⟩, Lib.hid (by simp [h4]; omega)⟩)))
    · exact .inl ⟨rfl, Lib.hid (by simp [h4])⟩
  have htm : v.tmod 8 = 0 ∨ True := .inr trivial
  have VC : (v < 8 ∧ Hid (gV ⟨h, k, v, m⟩ = false)) ∨ ((8 ≤ v ∧ 64 < v) ∧ Hid (gV ⟨h, k, v, m⟩ = false)) ∨ ((8 ≤ v ∧ v ≤ 64) ∧ (v.tmod 8 = v % 8 ∧ (v % 8 == 0) = false) ∧ Hid (gV ⟨h, k, v, m⟩ = false)) ∨ ((8 ≤ v ∧ v ≤ 64) ∧ (v.tmod 8 = v % 8 ∧ (v % 8 == 0) = true) ∧ Hid (gV ⟨h, k, v, m⟩ = true)) := by
    unfold gV
    rcases int_lt_or v 8 with a | a
    · exact .inl ⟨a, Lib.hid (by simp; omega)⟩
    · rcases int_lt_or 64 v with b | b
      · exact .inr (.inl ⟨⟨a, b⟩, Lib.hid (by simp; omega)⟩)
      · have ht : v.tmod 8 = v % 8 := Int.tmod_eq_emod_of_nonneg (by omega)
        cases h8 : (v % 8 == 0)
        · exact .inr (.inr (.inl ⟨⟨a, b⟩, ⟨ht, rfl⟩, Lib.hid (by simp [h8])⟩))
        · exact .inr (.inr (.inr ⟨⟨a, b⟩, ⟨ht, rfl⟩, Lib.hid (by simp [h8]; omega)⟩))
  have MC : (m < 1 ∧ Hid (gM ⟨h, k, v, m⟩ = false)) ∨ ((1 ≤ m ∧ 16 < m) ∧ Hid (gM ⟨h, k, v, m⟩ = false)) ∨ ((1 ≤ m ∧ m ≤ 16) ∧ Hid (gM ⟨h, k, v, m⟩ = true)) := by
    unfold gM
    rcases int_lt_or m 1 with a | a
    · exact .inl ⟨a, Lib.hid (by simp; omega)⟩
    · rcases int_lt_or 16 m with b | b
      · exact .inr (.inl ⟨⟨a, b⟩, Lib.hid (by simp; omega)⟩)
      · exact .inr (.inr ⟨⟨a, b⟩, Lib.hid (by simp; omega)⟩)
  clear htm
  generalize (!(Df.good ⟨h, k, v, m⟩)) = ans at *
  generalize gK ⟨h, k, v, m⟩ = bk at *
  generalize gV ⟨h, k, v, m⟩ = bv at *
  generalize gM ⟨h, k, v, m⟩ = bm at *
  rcases KC with ⟨k1, K⟩ | ⟨k1, rfl, K⟩ | ⟨k1, rfl, k2, K⟩ | ⟨k1, rfl, ⟨k2, k3⟩, K⟩ | ⟨k1, rfl, ⟨k2, k3⟩, K⟩ <;>
  rcases VC with ⟨v1, V⟩ | ⟨⟨v1, v2⟩, V⟩ | ⟨⟨v1, v2⟩, ⟨v3, v4⟩, V⟩ | ⟨⟨v1, v2⟩, ⟨v3, v4⟩, V⟩ <;>
  rcases MC with ⟨m1, MM⟩ | ⟨⟨m1, m2⟩, MM⟩ | ⟨⟨m1, m2⟩, MM⟩ <;>
  (go_enter Tryz.func94, Tryz.ntmps94
   go_wp2_with fail
   go_ret
   exact ⟨end_bool (by rw [HG.out, K.out, V.out, MM.out]; first | rfl | (simp; omega)), below_alloc (Below.refl _ _) _⟩)
theorem dec_not (r : Int) : decide (0 ≤ r) = !decide (r < 0) := by
  by_cases h : r < 0
  · rw [decide_eq_true h, decide_eq_false (by omega)]; rfl
  · rw [decide_eq_false h, decide_eq_true (by omega)]; rfl
set_option maxHeartbeats 4000000 in
theorem q9_Index (w : World) (A : Option Addr) (c : Nat) (l : List Df) (hl : DefS w A l) (hlc : l.length ≤ c) (hcm : c ≤ maxLen) (h8 : l.length ≤ 8) :
    Calls Tryz.prog 141 #[.slice A l.length c, .func (.func 94) #[] #[]] w (fun e w' => ∃ r : Int, e = .returned (.int .i64 r) ∧ Hid (l.all Df.good = decide (r < 0)) ∧ (r < 0 ∨ 0 ≤ r) ∧ Hid (Below w.heap.size w w')) := by
  have HALL := Lib.hid (fun h => all_from (l := l) h)
  have HNOT := Lib.hid (fun j h1 h2 => all_not (l := l) (j := j) h1 h2)
  have HL := Lib.hid hl
  have HIW := Lib.hid fun (d : Df) (u : World) => q9_isWrong d u
  clear hl
  unfold maxLen at hcm
  generalize hn : l.length = n at *
  have HN := Lib.hid hn
  clear hn
  go_enter Tryz.func141, Tryz.ntmps141
  go_wp2_with fail
  go_loopw [8] (fun iv wr => ∃ j : Nat, iv = .int .i64 j ∧ j ≤ n ∧ Hid (∀ t, t < j → (dAt l t).good = true) ∧ Hid (Below w.heap.size w wr)) (fun iv wr => n - (intOf iv).toNat)
  case atStart => exact ⟨0, rfl, by omega, Lib.hid fun t ht => by omega, Lib.hid (Below.refl _ _)⟩
  case round =>
    obtain ⟨j, rfl, hj, HT, V⟩ := hrel
    have j0 : (0 : Int) ≤ j := by omega
    by_cases hlt : (j : Int) < n
    · have hjn : j < n := by omega
      obtain ⟨g, o, rfl, hg, hc⟩ := HL.out.after V.out (by rw [HN.out]; exact Nat.lt_of_le_of_lt (Nat.zero_le _) hjn)
      obtain ⟨c0, c1, c2, c3⟩ := hc j (by rw [HN.out]; exact hjn)
      have IW : Hid (∀ u, Calls Tryz.prog 94 #[.agg #[.bool (dAt l j).hash, .int .i64 (dAt l j).key, .int .i64 (dAt l j).val, .int .i64 (dAt l j).max]] u (Gives (.bool (!(dAt l j).good)) u)) := Lib.hid fun u => HIW.out (dAt l j) u
      have BAD : Hid ((dAt l j).good = false → l.all Df.good = decide ((j : Int) < 0)) := Lib.hid fun h => by rw [HNOT.out j hjn h, decide_eq_false (by omega)]
      have NEXT : Hid ((dAt l j).good = true → ∀ t, t < j + 1 → (dAt l t).good = true) := Lib.hid fun h t ht => by
        by_cases e : t = j
        · rw [e]; exact h
        · exact HT.out t (by omega)
      clear hc HIW
      generalize (dAt l j).hash = hh at *
      generalize (dAt l j).key = key at *
      generalize (dAt l j).val = val at *
      generalize (dAt l j).max = mx at *
      go_wp2_with fail
      cases hgd : (dAt l j).good
      · rw [hgd] at IW
        replace BAD := Lib.hid (BAD.out hgd)
        refine (IW.out _).mono ?_
        rintro e w1 ⟨rfl, b1⟩
        replace V := Lib.hid (below_next' V.out b1)
        clear b1
        simp only [Bool.not_false]
        go_wp2_with fail
        go_ret
        exact ⟨j, rfl, BAD, .inr (by omega), V⟩
      · rw [hgd] at IW
        replace NEXT := Lib.hid (NEXT.out hgd)
        refine (IW.out _).mono ?_
        rintro e w1 ⟨rfl, b1⟩
        replace V := Lib.hid (below_next' V.out b1)
        clear b1
        simp only [Bool.not_true]
        go_wp2_with fail
        go_round
        case rel => exact ⟨j + 1, by go_num, by omega, NEXT, V⟩
        case measure => simp [intOf]; omega
    · have hjn : j = n := by omega
      subst hjn
      have HA : Hid (l.all Df.good = decide ((-1 : Int) < 0)) := Lib.hid (by
        rw [HALL.out HT.out]
        rfl)
      go_wp2_with fail
      go_ret
      exact ⟨-1, rfl, HA, .inl (by omega), V⟩
set_option maxHeartbeats 2000000 in
theorem q9_Contains (w : World) (A : Option Addr) (c : Nat) (l : List Df) (hl : DefS w A l) (hlc : l.length ≤ c) (hcm : c ≤ maxLen) (h8 : l.length ≤ 8) :
    Calls Tryz.prog 93 #[.slice A l.length c, .func (.func 94) #[] #[]] w (Gives (.bool (!(l.all Df.good))) w) := by
  have IX := Lib.hid (q9_Index w A c l hl hlc hcm h8)
  clear hl
  generalize l.length = n at *
  generalize l.all Df.good = ag at *
  go_enter Tryz.func93, Tryz.ntmps93
  go_wp2_with fail
  refine (IX.out).mono ?_
  rintro e w1 ⟨r, rfl, HA, hr, V⟩
  rcases hr with hr | hr
  · go_wp2_with fail
    go_ret
    exact ⟨end_bool (by rw [HA.out]; first | rfl | exact dec_not r | (rw [decide_eq_false (show ¬ r < 0 by omega)]; rfl) | (rw [decide_eq_true (show r < 0 by omega)]; rfl)), V.out⟩
  · go_wp2_with fail
    go_ret
    exact ⟨end_bool (by rw [HA.out]; first | rfl | exact dec_not r | (rw [decide_eq_false (show ¬ r < 0 by omega)]; rfl) | (rw [decide_eq_true (show r < 0 by omega)]; rfl)), V.out⟩
set_option maxHeartbeats 2000000 in
theorem q9_Right (w : World) (A : Option Addr) (c : Nat) (l : List Df) (hl : DefS w A l) (hlc : l.length ≤ c) (hcm : c ≤ maxLen) : Calls Tryz.prog 49 #[.slice A l.length c] w (Gives (.bool (tRight l)) w) := by
  have HR : Hid (tRight l = (l.all Df.good && decide (l.length ≤ 8))) := Lib.hid rfl
  by_cases h8 : l.length ≤ 8
  · have IX := Lib.hid (q9_Contains w A c l hl hlc hcm h8)
    have h8' : (l.length : Int) ≤ 8 := by omega
    clear hl
    rw [decide_eq_true h8, Bool.and_true] at HR
    rw [HR.out]
    generalize l.length = n at *
    generalize l.all Df.good = ag at *
    unfold maxLen at hcm
    go_enter Tryz.func49, Tryz.ntmps49
    go_wp2_with fail
    refine (IX.out).mono ?_
    rintro e w1 ⟨rfl, b1⟩
    have V := Lib.hid b1
    clear b1
    go_wp2_with fail
    go_ret
    exact ⟨end_bool (by cases ag <;> rfl), V.out⟩
  · have h8' : 8 < (l.length : Int) := by omega
    rw [decide_eq_false h8, Bool.and_false] at HR
    rw [HR.out]
    clear hl
    generalize l.length = n at *
    unfold maxLen at hcm
    go_enter Tryz.func49, Tryz.ntmps49
    go_wp2_with fail
    go_ret
    exact ⟨rfl, Below.refl _ _⟩
end Go.Proofs.YtlbhffdpklbhfaaGreat
namespace Go.Proofs.YtlbhffdpklbhfaaGreat
open Go Go.RowKit
set_option maxRecDepth 100000
set_option linter.unusedVariables false
set_option linter.unusedSimpArgs false
def numK (k : Nat) : TK := ⟨[(k : Int), 0, 0, 0], k⟩
theorem numL_succ (n : Nat) : numL (n + 1) = numL n ++ [numK n] := by
  unfold numL
  rw [List.range_succ, List.map_append]
  rfl
theorem numL_len (n : Nat) : (numL n).length = n := by simp [numL]
theorem numL_mem {n : Nat} {x : TK} (h : x ∈ numL n) : ∃ k, k < n ∧ x = numK k := by
  unfold numL at h
  obtain ⟨k, hk, rfl⟩ := List.mem_map.mp h
  exact ⟨k, List.mem_range.mp hk, rfl⟩
theorem okB_num {k : Nat} (h : k ≤ 255) : OkB [(k : Int), 0, 0, 0] := by
  intro j hj
  match j, hj with
  | 0, _ => exact ⟨Int.natCast_nonneg _, by show (k : Int) ≤ 255; omega⟩
  | 1, _ => exact ⟨by show (0 : Int) ≤ 0; omega, by show (0 : Int) ≤ 255; omega⟩
  | 2, _ => exact ⟨by show (0 : Int) ≤ 0; omega, by show (0 : Int) ≤ 255; omega⟩
  | 3, _ => exact ⟨by show (0 : Int) ≤ 0; omega, by show (0 : Int) ≤ 255; omega⟩
theorem numL_rise (n : Nat) : (numL n).Pairwise fun x y => kLt x.k y.k = true := by
  unfold numL
  rw [List.pairwise_map]
  refine List.pairwise_lt_range.imp ?_
  intro a b h
  show (decide ((a : Int) < (b : Int)) || _) = true
  rw [decide_eq_true (by omega : (a : Int) < (b : Int))]
  rfl
theorem good_at {d : Df} (h : d.good = true) : 1 ≤ d.key ∧ d.key ≤ 16 ∧ 8 ≤ d.val ∧ d.val ≤ 64 ∧ 1 ≤ d.max ∧ d.max ≤ 16 ∧ (d.hash = false → d.key = 4) := by
  unfold Df.good at h
  simp only [Bool.and_eq_true, decide_eq_true_eq] at h
  obtain ⟨⟨⟨⟨⟨h1, h2⟩, h3⟩, h4⟩, h5⟩, h6⟩ := h
  cases hh : d.hash
  · rw [hh] at h1
    have : d.key = 4 := by simpa using h1
    exact ⟨by omega, by omega, h2, h3, h5, h6, fun _ => this⟩
  · rw [hh] at h1
    simp only [if_true, Bool.and_eq_true, decide_eq_true_eq] at h1
    exact ⟨h1.1, h1.2, h2, h3, h5, h6, fun e => absurd e (by simp)⟩
theorem ok_hash {d : Df} (h : d.good = true) : TM.ok ⟨d, [], 0⟩ :=
  ⟨h, fun x hx => absurd hx (by simp), List.Pairwise.nil, by have := (good_at h).2.2.2.2.1; show ((0 : Nat) : Int) ≤ d.max; omega, by show 0 ≤ 1024; omega⟩
theorem ok_num {d : Df} (h : d.good = true) (hh : d.hash = false) : TM.ok ⟨d, numL d.max.toNat, d.max.toNat⟩ := by
  obtain ⟨_, _, _, _, m1, m2, hk⟩ := good_at h
  refine ⟨h, fun x hx => ?_, numL_rise _, ?_, ?_⟩
  · obtain ⟨k, hlt, rfl⟩ := numL_mem hx
    exact ⟨okB_num (by omega), by show ((4 : Nat) : Int) = d.key; rw [hk hh]; rfl, hlt⟩
  · show ((numL d.max.toNat).length : Int) ≤ d.max
    rw [numL_len]; omega
  · show d.max.toNat ≤ 1024; omega
theorem tSlots_next {M : PM} {i v k n : Nat} (h : k < n) (e : (pMake M (tArea i k) (List.replicate v 0) false false).2 = 0) : tSlots M i v k (n - k) = tSlots (pMake M (tArea i k) (List.replicate v 0) false false).1 i v (k + 1) (n - (k + 1)) := by
  rw [show n - k = (n - (k + 1)) + 1 by omega]
  exact if_pos e
theorem tSlots_no {M : PM} {i v k n : Nat} (h : k < n) (e : ¬ (pMake M (tArea i k) (List.replicate v 0) false false).2 = 0) : tSlots M i v k (n - k) = ((pMake M (tArea i k) (List.replicate v 0) false false).1, false) := by
  rw [show n - k = (n - (k + 1)) + 1 by omega]
  exact if_neg e
theorem tSlots_end {M : PM} {i v n : Nat} : tSlots M i v n (n - n) = (M, true) := by rw [Nat.sub_self]; rfl
theorem df_drop {l : List Df} {j : Nat} (h : j < l.length) : l.drop j = l.getD j Df.zero :: l.drop (j + 1) := by
  rw [List.drop_eq_getElem_cons h, List.getD_eq_getElem?_getD, List.getElem?_eq_getElem h]
  rfl
theorem tNewG_hash {l : List Df} {j : Nat} {M : PM} {T : TT} (h : j < l.length) (hh : (l.getD j Df.zero).hash = true) : tNewG j (l.drop j) M T = tNewG (j + 1) (l.drop (j + 1)) M (T ++ [⟨l.getD j Df.zero, [], 0⟩]) := by
  rw [df_drop h]
  exact if_pos hh
theorem tNewG_num {l : List Df} {j : Nat} {M : PM} {T : TT} (h : j < l.length) (hh : (l.getD j Df.zero).hash = false) : tNewG j (l.drop j) M T =
    (if (tSlots M j (l.getD j Df.zero).val.toNat 0 (l.getD j Df.zero).max.toNat).2 then tNewG (j + 1) (l.drop (j + 1)) (tSlots M j (l.getD j Df.zero).val.toNat 0 (l.getD j Df.zero).max.toNat).1 (T ++ [⟨l.getD j Df.zero, numL (l.getD j Df.zero).max.toNat, (l.getD j Df.zero).max.toNat⟩])
      else ((tSlots M j (l.getD j Df.zero).val.toNat 0 (l.getD j Df.zero).max.toNat).1, none)) := by
  rw [df_drop h]
  exact if_neg (by rw [hh]; simp)
theorem tNewG_end {l : List Df} {j : Nat} {M : PM} {T : TT} (h : l.length ≤ j) : tNewG j (l.drop j) M T = (M, some T) := by
  rw [List.drop_of_length_le h]
  rfl
end Go.Proofs.YtlbhffdpklbhfaaGreat
namespace Go.Proofs.YtlbhffdpklbhfaaGreat
open Go.RowKit
set_option maxRecDepth 100000
set_option linter.unusedVariables false
set_option linter.unusedSimpArgs false
theorem RawN.trans {w u u' : World} {gt gm : Nat} {vl : Value} {L L2 : List TR} {M M2 : PM} {F G F' G' F2 G2 : Nat → Prop} (h : RawN w gt gm vl L M F G u F' G') (k : RawN u gt gm vl L2 M2 F' G' u' F2 G2) : RawN w gt gm vl L2 M2 F G u' F2 G2 := by
  have hs := h.turn.size
  refine ⟨k.rep, h.turn.trans k.turn (fun x hx => ?_), fun x hx => ?_, fun x hx => ?_⟩
  · rcases hx with c | c
    · exact (h.footF x c).imp .inl id
    · exact (h.footG x c).imp .inr id
  · rcases k.footF x hx with c | c
    · exact h.footF x c
    · exact .inr (by omega)
  · rcases k.footG x hx with c | c
    · exact h.footG x c
    · exact .inr (by omega)
theorem RawN.before {w0 w u : World} {gt gm : Nat} {vl : Value} {L : List TR} {M : PM} {F G F' G' : Nat → Prop} (h : RawN w gt gm vl L M F G u F' G') (b : Below w0.heap.size w0 w) : RawN w0 gt gm vl L M F G u F' G' := by
  have := b.size
  exact ⟨h.rep, (Turn.of_below b).trans h.turn (fun x hx => .inl hx), fun x hx => (h.footF x hx).imp id (fun c => by omega), fun x hx => (h.footG x hx).imp id (fun c => by omega)⟩
theorem find_num {j : Nat} : tFind (numL j) [(j : Int), 0, 0, 0] = none := by
  unfold tFind
  rw [Option.map_eq_none_iff, List.find?_eq_none]
  intro x hx
  obtain ⟨k, hk, rfl⟩ := numL_mem hx
  simp [numK]
  omega
theorem tIns_num (j : Nat) : tIns (numL j) ⟨[(j : Int), 0, 0, 0], j⟩ = numL (j + 1) := by
  have h : ∀ x ∈ numL j, kLt x.k [(j : Int), 0, 0, 0] = true := fun x hx => by
    obtain ⟨k, hk, rfl⟩ := numL_mem hx
    simp [numK, kLt]
    omega
  unfold tIns
  rw [numL_succ]
  have e1 : ∀ (l : List TK) (p : TK → Bool), (∀ x ∈ l, p x = true) → l.takeWhile p = l ∧ l.dropWhile p = [] := fun l p hp => by
    induction l with
    | nil => exact ⟨rfl, rfl⟩
    | cons a l ih =>
      obtain ⟨i1, i2⟩ := ih (fun x hx => hp x (List.mem_cons_of_mem _ hx))
      have ha := hp a (List.mem_cons_self ..)
      rw [List.takeWhile_cons, ha, List.dropWhile_cons, ha]
      simp [i1, i2]
  obtain ⟨i1, i2⟩ := e1 (numL j) (fun y => kLt y.k [(j : Int), 0, 0, 0]) h
  rw [i1, i2]
  rfl
theorem kok_num {j : Nat} (h : j ≤ 200) : KOk (numL j) := ⟨fun x hx => by
  obtain ⟨k, hk, rfl⟩ := numL_mem hx
  exact okB_num (by omega), numL_rise j⟩
theorem pMake_more (M : PM) (i : Int) (b : List Int) (bl fx : Bool) : (pMake M i b bl fx).1.length ≤ M.length + 1 := by
  unfold pMake
  split
  · simp
  · split
    · simp
    · simp
def numR (d : Df) (j mb : Nat) : TR := ⟨⟨d, numL j, j⟩, .map (some mb)⟩
def NumW (gt gm : Nat) (vl : Value) (F G : Nat → Prop) (Lx : List TR) (r : PM × Bool) (w : World) (e : Ending) (w' : World) : Prop :=
  e = .returned (.bool r.2) ∧ ∃ L' F' G', RawN w gt gm vl L' r.1 F G w' F' G' ∧ (r.2 = true → L' = Lx)
set_option maxHeartbeats 4000000 in
theorem q9_number (w : World) (gt gm : Nat) (vl : Value) (L : List TR) (M : PM) (F G : Nat → Prop) (k mb : Nat) (d : Df) (h : RawD w gt gm vl L M F G) (hk : k < L.length) (hk1 : L.length ≤ 1000) (hat : trAt L k = numR d 0 mb) (hg : d.good = true) (hh : d.hash = false) (hM : M.length ≤ 50000) :
    Calls Tryz.prog 50 #[.pointer (some ⟨gt, 0, none⟩), .int .i64 (k : Int)] w
      (NumW gt gm vl F G (L.set k (numR d d.max.toNat mb)) (tSlots M k d.val.toNat 0 d.max.toNat) w) := by
  obtain ⟨g1, g2, g3, g4, g5, g6, g7⟩ := good_at hg
  obtain ⟨gl, cl, hvl, k1, k2, hgl, e0, e1, e2, e3, e4, e5⟩ := h.maps.at_ hk
  obtain ⟨c0, c1⟩ := h.maps.cells
  rw [hvl] at c1
  rw [hat] at e0 e1 e2 e3
  have hL0 : L.set k (numR d 0 mb) = L := by
    apply List.ext_getElem?
    intro j
    rw [List.getElem?_set]
    by_cases e : k = j
    · subst e
      rw [if_pos rfl, if_pos hk, ← hat]
      unfold trAt
      rw [List.getD_eq_getElem?_getD, List.getElem?_eq_getElem hk]
      rfl
    · rw [if_neg e]
  obtain ⟨n, hn⟩ : ∃ n : Nat, d.max = n := ⟨d.max.toNat, by omega⟩
  obtain ⟨nv, hnv⟩ : ∃ n : Nat, d.val = n := ⟨d.val.toNat, by omega⟩
  rw [show (numR d 0 mb).m.d = d from rfl] at e0 e1 e2 e3
  rw [hn] at e3 g5 g6 ⊢
  rw [hnv] at e2 g3 g4 ⊢
  rw [Int.toNat_natCast, Int.toNat_natCast]
  unfold maxLen at k2
  have k0 : (0 : Int) ≤ k := by omega
  have k3 : (k : Int) < L.length := by omega
  have B0 := below_alloc (Below.refl w.heap.size w) (.cells #[.bool d.hash, .int .i64 d.key, .int .i64 (nv : Int), .int .i64 (n : Int)] 74)
  have Q0 : Hid (RawN (w.alloc (.cells #[.bool d.hash, .int .i64 d.key, .int .i64 (nv : Int), .int .i64 (n : Int)] 74)) gt gm vl (L.set k (numR d 0 mb)) M F G (w.alloc (.cells #[.bool d.hash, .int .i64 d.key, .int .i64 (nv : Int), .int .i64 (n : Int)] 74)) F G) := Lib.hid (by
    rw [hL0]
    exact ⟨h.after B0, Turn.refl _ _, fun x hx => .inl hx, fun x hx => .inl hx⟩)
  have HV : Hid (Blk w.heap.size #[.bool d.hash, .int .i64 d.key, .int .i64 (nv : Int), .int .i64 (n : Int)] 74 (w.alloc (.cells #[.bool d.hash, .int .i64 d.key, .int .i64 (nv : Int), .int .i64 (n : Int)] 74))) := Lib.hid (Blk.new w _ _ rfl)
  have HO : Hid (¬ (F w.heap.size ∨ G w.heap.size)) := Lib.hid (by
    rintro (c | c)
    · have := h.maps.lt c; omega
    · have := h.mem.lt c; omega)
  have BB := Lib.hid B0
  have HS : Hid (∀ u, Turn (fun x => F x ∨ G x) (w.alloc (.cells #[.bool d.hash, .int .i64 d.key, .int .i64 (nv : Int), .int .i64 (n : Int)] 74)) u → Blk w.heap.size #[.bool d.hash, .int .i64 d.key, .int .i64 (nv : Int), .int .i64 (n : Int)] 74 u) := Lib.hid fun u t => Blk.same HV.out (t.block _ HV.out.lt HO.out)
  have AD : Hid (∀ (u : World) (M' : PM) (F' G' : Nat → Prop) (j : Nat) (B C : Nat), j < n → M'.length ≤ 60000 → RawD u gt gm vl (L.set k (numR d j mb)) M' F' G' → BytS u (some ⟨B, 0, none⟩) [(j : Int), 0, 0, 0] → BytS u (some ⟨C, 0, none⟩) (List.replicate nv 0) → ¬ (F' B ∨ G' B) → ¬ (F' C ∨ G' C) →
      Calls Tryz.prog 95 #[.pointer (some ⟨gt, 0, none⟩), .int .i64 (k : Int), .slice (some ⟨B, 0, none⟩) 4 4, .slice (some ⟨C, 0, none⟩) nv nv] u (fun e u' => if (pMake M' (tArea k j) (List.replicate nv 0) false false).2 = 0 then AddW gt gm vl F' G' (L.set k (numR d (j + 1) mb)) (pMake M' (tArea k j) (List.replicate nv 0) false false).1 (.bool true) u e u' else AddW gt gm vl F' G' (L.set k (numR d j mb)) M' (.bool false) u e u')) := Lib.hid fun u M' F' G' j B C hj hM' hr hb hc hB hC => by
    have hkl : k < (L.set k (numR d j mb)).length := by rw [List.length_set]; exact hk
    have ht : trAt (L.set k (numR d j mb)) k = numR d j mb := by rw [trAt_set hk, if_pos rfl]
    have hA := q9_add u gt gm vl (L.set k (numR d j mb)) M' F' G' k [(j : Int), 0, 0, 0] (List.replicate nv 0) (some ⟨B, 0, none⟩) (some ⟨C, 0, none⟩) 4 4 nv nv hr hkl (by rw [List.length_set]; exact hk1) mb (by rw [ht]; rfl) (by rw [ht]; exact kok_num (by omega)) (by rw [ht]; exact find_num) (by rw [ht]; show (numL j).length ≤ 1000; rw [numL_len]; omega) (by rw [ht]; show j ≤ 1024; omega)
      (keep_of hb (fun g o e => by cases e; exact hB)) (okB_num (by omega)) rfl (by omega) (by unfold maxLen; omega) (keep_of hc (fun g o e => by cases e; exact hC)) (okB_zeros nv) (by simp) (by omega) (by unfold maxLen; omega) (by omega)
    refine hA.mono fun e u' hw => ?_
    rw [ht] at hw
    rw [show (numR d j mb).m.made = j from rfl, if_neg (by omega)] at hw
    by_cases hp : (pMake M' (tArea k j) (List.replicate nv 0) false false).2 = 0
    · rw [if_pos hp] at hw ⊢
      rw [show (numR d j mb).m.L = numL j from rfl, show (numR d j mb).m.d = d from rfl, tIns_num, List.set_set] at hw
      exact hw
    · rw [if_neg hp] at hw ⊢
      exact hw
  clear h hat hL0 hvl e4 e5 hk B0 HV HO
  generalize d.key = dk at *
  generalize d.hash = dh at *
  obtain rfl : dh = false := hh
  obtain rfl : dk = 4 := g7 rfl
  clear g7
  generalize hw1 : w.alloc (.cells #[.bool false, .int .i64 4, .int .i64 (nv : Int), .int .i64 (n : Int)] 74) = w1 at *
  have HW := Lib.hid hw1
  clear hw1
  go_enter Tryz.func50, Tryz.ntmps50
  go_wp2_with fail
  rw [HW.out]
  go_loopw [17] (fun iv wr => ∃ (j : Nat) (M' : PM) (F' G' : Nat → Prop), iv = .int .i64 j ∧ j ≤ n ∧ Hid (tSlots M' k nv j (n - j) = tSlots M k nv 0 n) ∧ Hid (M'.length ≤ M.length + j) ∧ Hid (RawN w1 gt gm vl (L.set k (numR d j mb)) M' F G wr F' G')) (fun iv wr => n - (intOf iv).toNat)
  case atStart => exact ⟨0, M, F, G, rfl, by omega, Lib.hid rfl, Lib.hid (by omega), Q0⟩
  case round =>
    obtain ⟨j, M', F', G', rfl, hj, HE, HML, Q⟩ := hrel
    have j0 : (0 : Int) ≤ j := by omega
    clear Q0
    by_cases hlt : (j : Int) < n
    · have hjn : j < n := by omega
      have hwj : IntKind.u8.wrap (j : Int) = j := by rw [IntKind.wrap_u8]; omega
      have HB := HS.out wr Q.out.turn
      have v2 := cell_alloc (Blk.cell HB 2) (.cells #[.int .u8 (j : Int), .int .u8 0, .int .u8 0, .int .u8 0] 5)
      have hm := make_bytes (wr.alloc (.cells #[.int .u8 (j : Int), .int .u8 0, .int .u8 0, .int .u8 0] 5)) nv (by omega)
      have bk := below_alloc (Below.refl wr.heap.size wr) (.cells #[.int .u8 (j : Int), .int .u8 0, .int .u8 0, .int .u8 0] 5)
      have Bk : Blk wr.heap.size #[.int .u8 (j : Int), .int .u8 0, .int .u8 0, .int .u8 0] 5 (wr.alloc (.cells #[.int .u8 (j : Int), .int .u8 0, .int .u8 0, .int .u8 0] 5)) := Blk.new wr _ _ rfl
      have hsk : (wr.alloc (.cells #[.int .u8 (j : Int), .int .u8 0, .int .u8 0, .int .u8 0] 5)).heap.size = wr.heap.size + 1 := by simp
      have bv := below_alloc (Below.refl _ (wr.alloc (.cells #[.int .u8 (j : Int), .int .u8 0, .int .u8 0, .int .u8 0] 5))) (.cells (byC (List.replicate nv 0)).toArray 5)
      have Bv : Blk (wr.heap.size + 1) (byC (List.replicate nv 0)).toArray 5 ((wr.alloc (.cells #[.int .u8 (j : Int), .int .u8 0, .int .u8 0, .int .u8 0] 5)).alloc (.cells (byC (List.replicate nv 0)).toArray 5)) := Blk.new _ _ _ hsk.symm
      have Qv := Lib.hid ((Q.out.after bk).after bv)
      have hF' : ∀ x, F' x → x < wr.heap.size := fun x hx => Q.out.rep.maps.lt hx
      have hG' : ∀ x, G' x → x < wr.heap.size := fun x hx => Q.out.rep.mem.lt hx
      have A2 := AD.out _ M' F' G' j wr.heap.size (wr.heap.size + 1) hjn (by have := HML.out; omega) Qv.out.rep
        (fun _ => ⟨wr.heap.size, 0, rfl, (Bk.after bv).lt, fun t ht => by
          have h4 : t < 4 := by simpa using ht
          rw [(Bk.after bv).cell]
          have : t = 0 ∨ t = 1 ∨ t = 2 ∨ t = 3 := by omega
          rcases this with rfl | rfl | rfl | rfl <;> rfl⟩)
        (fun _ => ⟨wr.heap.size + 1, 0, rfl, Bv.lt, fun t ht => by
          rw [Bv.cell, Nat.zero_add, List.getElem?_toArray, byC_at _ ht]⟩)
        (by rintro (c | c); (have := hF' _ c; omega); (have := hG' _ c; omega)) (by rintro (c | c); (have := hF' _ c; omega); (have := hG' _ c; omega))
      have A3 := Lib.hid A2
      clear A2 Bk Bv bk bv hF' hG' HB hsk
      have NX := Lib.hid fun he => (tSlots_next (M := M') (i := k) (v := nv) hjn he).symm.trans HE.out
      have NO := Lib.hid fun he => (tSlots_no (M := M') (i := k) (v := nv) hjn he).symm.trans HE.out
      have ML := Lib.hid (pMake_more M' (tArea k j) (List.replicate nv 0) false false)
      by_cases hp : (pMake M' (tArea k j) (List.replicate nv 0) false false).2 = 0
      · simp only [if_pos hp] at A3
        replace NX := Lib.hid (NX.out hp)
        clear NO hp HE
        generalize (pMake M' (tArea k j) (List.replicate nv 0) false false).1 = M2 at *
        go_wp2_with fail
        refine (A3.out).mono ?_
        rintro e w3 ⟨rfl, F2, G2, q3⟩
        have Q3 := Lib.hid (Qv.out.trans q3)
        clear q3 A3 Qv hm v2
        go_wp2_with fail
        go_round
        case rel => exact ⟨j + 1, M2, F2, G2, by go_num, by omega, NX, Lib.hid (by have h1 := ML.out; have h2 := HML.out; omega), Q3⟩
        case measure => simp [intOf]; omega
      · simp only [if_neg hp] at A3
        replace NO := Lib.hid (NO.out hp)
        have hMM := pMake_err M' (tArea k j) (List.replicate nv 0) false false hp
        rw [hMM] at NO
        clear NX hp HE ML hMM
        go_wp2_with fail
        refine (A3.out).mono ?_
        rintro e w3 ⟨rfl, F2, G2, q3⟩
        have Q3 := Lib.hid (Qv.out.trans q3)
        clear q3 A3 Qv hm v2
        go_wp2_with fail
        go_ret
        rw [← NO.out]
        exact ⟨rfl, _, F2, G2, Q3.out.before BB.out, fun hc => by cases hc⟩
    · have hjn : j = n := by omega
      subst hjn
      have HE2 : Hid (tSlots M k nv 0 j = (M', true)) := Lib.hid (by rw [← HE.out]; exact tSlots_end)
      go_wp2_with fail
      go_ret
      rw [HE2.out]
      exact ⟨rfl, _, F', G', Q.out.before BB.out, fun _ => rfl⟩
end Go.Proofs.YtlbhffdpklbhfaaGreat
