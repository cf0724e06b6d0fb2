/-
  Texts, one behind the other: Mem7.
  Conditions: those that each theorem states.
-/
import Derived.Deep.RegionHeld
import Derived.Deep.RegionHeld3
import Derived.Deep.DeepCutAuto
import Derived.Test.YtlbhffdpklbhfaaGreatPz10
namespace Go.Proofs.YtlbhffdpklbhfaaGreat
open Go.RowKit
set_option linter.unusedVariables false
set_option linter.unusedSimpArgs false
structure LdI (w : World) (n : Nat) (b : List Int) (fx : Bool) (gr gb gk : Nat) (l : List Bool) (u : World) : Prop where
  below : Below w.heap.size w u
  ret : Blk w.heap.size #[.slice none 0 0, .slice none 0 0, .bool false] 158 u
  var : Blk gr #[.slice (some ⟨gb, 0, none⟩) n n, .slice (some ⟨gk, 0, none⟩) n n, .bool fx] 158 u
  rb : u.ownsRow w.heap.size 5 1 (.slice (some ⟨gb, 0, none⟩) n n) n (byC b)
  rk : u.ownsRow w.heap.size 4 1 (.slice (some ⟨gk, 0, none⟩) n n) n (boC l)
  gr1 : w.heap.size < gr
  gb1 : w.heap.size < gb
  gk1 : w.heap.size < gk
  n1 : gr ≠ gb
  n2 : gr ≠ gk
  n3 : gb ≠ gk
theorem LdI.of {w u x : World} {n base gr gb gk : Nat} {b : List Int} {fx : Bool} (BU : Below w.heap.size w u) (RU : Blk w.heap.size #[.slice none 0 0, .slice none 0 0, .bool false] 158 u) (SU : u.heap.size = w.heap.size + 1) (hn : n ≤ 1024)
    (hx : Below u.heap.size u x) (hv : Blk gr #[.slice (some ⟨gb, 0, none⟩) n n, .slice (some ⟨gk, 0, none⟩) n n, .bool fx] 158 x) (hb : x.ownsRow base 5 1 (.slice (some ⟨gb, 0, none⟩) n n) n (byC b)) (hk : Blk gk (boC (List.replicate n false)).toArray 4 x)
    (g1 : u.heap.size ≤ gr) (g2 : u.heap.size ≤ gb) (g3 : u.heap.size ≤ gk) (n1 : gr ≠ gb) (n2 : gr ≠ gk) (n3 : gb ≠ gk) : LdI w n b fx gr gb gk (List.replicate n false) x :=
  ⟨below_next' BU hx, RU.after hx, hv, own_base hb (fun k hk => by have e : gb = k := by { cases hk; rfl }; omega), own_full hk (by simp [boC]) (by omega) (by omega), by omega, by omega, by omega, n1, n2, n3⟩
def st3 (w : World) (g : Nat) (a b c : Value) : World := ((w.setCell ⟨g, 0, none⟩ a).setCell ⟨g, 1, none⟩ b).setCell ⟨g, 2, none⟩ c
theorem st3_below {u w : World} {g : Nat} (h : Below u.heap.size u w) (hg : u.heap.size ≤ g) (a b c : Value) : Below u.heap.size u (st3 w g a b c) := ((h.setCell (p := ⟨g, 0, none⟩) hg a).setCell (p := ⟨g, 1, none⟩) hg b).setCell (p := ⟨g, 2, none⟩) hg c
theorem st3_blk {w : World} {g : Nat} {x y z : Value} {t : TypeId} (h : Blk g #[x, y, z] t w) (a b c : Value) : Blk g #[a, b, c] t (st3 w g a b c) := ((h.set 0 a).set 1 b).set 2 c
theorem st3_heap {w : World} {g k : Nat} (hk : k ≠ g) (a b c : Value) : (st3 w g a b c).heap[k]? = w.heap[k]? :=
  ((Below.heap_setCell _ ⟨g, 2, none⟩ _ _ hk).trans (Below.heap_setCell _ ⟨g, 1, none⟩ _ _ hk)).trans (Below.heap_setCell _ ⟨g, 0, none⟩ _ _ hk)
theorem st3_other {w : World} {g k : Nat} {cs : Array Value} {t : TypeId} (h : Blk k cs t w) (hk : k ≠ g) (a b c : Value) : Blk k cs t (st3 w g a b c) := (st3_heap hk a b c).trans h
theorem st3_own {w : World} {base size n k g cap : Nat} {e : TypeId} {xs : List Value} (h : w.ownsRow base e size (.slice (some ⟨k, 0, none⟩) n cap) n xs) (hk : k ≠ g) (a b c : Value) : (st3 w g a b c).ownsRow base e size (.slice (some ⟨k, 0, none⟩) n cap) n xs :=
  own_same h (fun i hi => by cases hi; exact st3_heap hk a b c)
theorem LdI.step {w u : World} {n gr gb gk j : Nat} {b : List Int} {fx : Bool} {l : List Bool} (h : LdI w n b fx gr gb gk l u) (v : Bool) : LdI w n b fx gr gb gk (l.set j v) (u.setCell ⟨gk, j, none⟩ (.bool v)) := by
  obtain ⟨h1, h2, h3, h4, h5, g1, g2, g3, n1, n2, n3⟩ := h
  refine ⟨h1.setCell (p := ⟨gk, j, none⟩) (Nat.le_of_lt g3) _, h2.other _ (by omega), h3.other _ n2, own_same h4 (fun k hk => by cases hk; exact Below.heap_setCell _ _ _ _ n3), ?_, g1, g2, g3, n1, n2, n3⟩
  have := (h5.stored j (.bool v)).1
  rw [boC_set] at this
  exact this
theorem set_next (n j : Nat) (v : Bool) (h : j < n) : (List.replicate j v ++ List.replicate (n - j) false).set j v = List.replicate (j + 1) v ++ List.replicate (n - (j + 1)) false := by
  obtain ⟨m, hm⟩ : ∃ m, n - j = m + 1 := ⟨n - j - 1, by omega⟩
  rw [hm, show n - (j + 1) = m by omega, List.set_append_right _ _ (by simp), List.length_replicate, Nat.sub_self, List.replicate_succ, List.set_cons_zero, List.replicate_succ', List.append_assoc]
  rfl
set_option maxRecDepth 100000 in
set_option maxHeartbeats 4000000 in
theorem c8_laid (w : World) (B : Option Addr) (b : List Int) (n d : Nat) (bl fx : Bool) (hb : BytS w B b) (hn : b.length = n) (hs : n ≤ 1024) :
    Calls Tryz.prog 92 #[.slice B n d, .bool bl, .bool fx] w (fun e w' => ∃ gb gk, e = .returned (.agg #[.slice (some ⟨gb, 0, none⟩) n n, .slice (some ⟨gk, 0, none⟩) n n, .bool fx]) ∧
      w'.ownsRow w.heap.size 5 1 (.slice (some ⟨gb, 0, none⟩) n n) n (byC b) ∧ w'.ownsRow w.heap.size 4 1 (.slice (some ⟨gk, 0, none⟩) n n) n (boC (List.replicate n bl)) ∧ gb ≠ gk ∧ Below w.heap.size w w') := by
  have hm := fun u => make_bools u n (by omega)
  have BU : Hid (Below w.heap.size w (w.alloc (.cells #[.slice none 0 0, .slice none 0 0, .bool false] 158))) := Lib.hid (below_alloc (Below.refl _ _) _)
  have RU : Hid (Blk w.heap.size #[.slice none 0 0, .slice none 0 0, .bool false] 158 (w.alloc (.cells #[.slice none 0 0, .slice none 0 0, .bool false] 158))) := Lib.hid (Blk.new w _ _ rfl)
  have SU : Hid ((w.alloc (.cells #[.slice none 0 0, .slice none 0 0, .bool false] 158)).heap.size = w.heap.size + 1) := Lib.hid (by simp)
  have OWN : Hid (∀ u, Below w.heap.size w u → Calls Tryz.prog 140 #[.slice B n d] u (fun e w' => ∃ g, e = .returned (.slice (some ⟨g, 0, none⟩) n n) ∧ w'.ownsRow u.heap.size 5 1 (.slice (some ⟨g, 0, none⟩) n n) n (byC b) ∧ Below u.heap.size u w')) := Lib.hid fun u hu => c8_own u B b n d (hb.after hu) hn (by omega)
  have NN : Hid (n ≤ 1024) := Lib.hid hs
  clear hb hn
  go_enter Tryz.func92, Tryz.ntmps92
  go_upto_region 1 with fail
  generalize w.alloc (.cells #[.slice none 0 0, .slice none 0 0, .bool false] 158) = u at *
  go_cut [7] (fun s7 wx => ∃ gr gb gk, s7 = .pointer (some ⟨gr, 0, none⟩) ∧ Hid (LdI w n b fx gr gb gk (List.replicate n false) wx))
  case first =>
    refine wp_region_held_drew (S := fun _ => True) (by kernel_rfl) trivial (fun hHeld => ?_)
    clear hHeld
    refine wpAnyH_take (i := 0) (v := ?_) rfl (by kernel_rfl) (by kernel_rfl) (by kernel_rfl) (fun _ _ _ h => h) (Or.inl ⟨by rfl, ?_⟩) (by trivial) ?_
    rotate_left 1
    · intro w hSw; (try dsimp only at hSw); go_simp; try (with_reducible rfl)
    try simp only [Act.put, List.setIfInBounds_toArray, List.set_cons_zero, List.set_cons_succ]
    refine wpAnyH_take (i := 2) (v := ?_) rfl (by kernel_rfl) (by kernel_rfl) (by kernel_rfl) (fun _ _ _ h => h) (Or.inl ⟨by rfl, ?_⟩) (by trivial) ?_
    rotate_left 1
    · intro w hSw; (try dsimp only at hSw); go_simp; try (with_reducible rfl)
    try simp only [Act.put, List.setIfInBounds_toArray, List.set_cons_zero, List.set_cons_succ]
    refine wpAnyH_take (i := 3) (v := ?_) rfl (by kernel_rfl) (by kernel_rfl) (by kernel_rfl) (fun _ _ _ h => h) (Or.inl ⟨by rfl, ?_⟩) (by trivial) ?_
    rotate_left 1
    · intro w hSw; (try dsimp only at hSw); go_simp; try (with_reducible rfl)
    try simp only [Act.put, List.setIfInBounds_toArray, List.set_cons_zero, List.set_cons_succ]
    refine wpAnyH_take (i := 5) (v := ?_) rfl (by kernel_rfl) (by kernel_rfl) (by kernel_rfl) (fun _ _ _ h => h) (Or.inl ⟨by rfl, ?_⟩) (by trivial) ?_
    rotate_left 1
    · intro w hSw; (try dsimp only at hSw); go_simp; try (with_reducible rfl)
    try simp only [Act.put, List.setIfInBounds_toArray, List.set_cons_zero, List.set_cons_succ]
    refine wpAnyH_ready (rs := [1, 4, 7]) (by kernel_rfl) (by simp) ?_
    refine AllReadyH.cons rfl (fun K hK => ?_) (AllReadyH.cons rfl (fun K hK => ?_) (AllReadyH.cons rfl (fun K hK => ?_) AllReadyH.nil))
    · skip
      go_simp
      have P0 : Below u.heap.size u u.drew := Below.drew (Below.refl _ _)
      refine (OWN.out _ (BU.out.trans (P0.mono BU.out.size))).mono ?_; rintro e w6 ⟨gb, rfl, ho, hb6⟩
      have OO := Lib.hid ho
      have B6 := Lib.hid (below_next' P0 hb6)
      have GB : Hid (u.heap.size + 0 ≤ gb ∧ gb < w6.heap.size) := Lib.hid (by have h : u.heap.size ≤ gb ∧ gb < w6.heap.size := ho.lt gb rfl; (try simp only [World.alloc, Array.size_push] at h); omega)
      clear ho hb6 P0
      go_wp2_with fail
      refine hK.out _ _ trivial (fun hHeld => ?_)
      clear hK K hHeld
      try simp only [Act.put, List.setIfInBounds_toArray, List.set_cons_zero, List.set_cons_succ]
      refine wpAnyH_ready (rs := [4, 7]) (by kernel_rfl) (by simp) ?_
      refine AllReadyH.cons rfl (fun K hK => ?_) (AllReadyH.cons rfl (fun K hK => ?_) AllReadyH.nil)
      · skip
        go_simp
        refine hK.out _ _ trivial (fun hHeld => ?_)
        clear hK K hHeld
        try simp only [Act.put, List.setIfInBounds_toArray, List.set_cons_zero, List.set_cons_succ]
        refine wpAnyH_take (i := 6) (v := ?_) rfl (by kernel_rfl) (by kernel_rfl) (by kernel_rfl) (fun _ _ _ h => h) (Or.inl ⟨by rfl, ?_⟩) (by trivial) ?_
        rotate_left 1
        · intro w hSw; (try dsimp only at hSw); go_simp; try (with_reducible rfl)
        try simp only [Act.put, List.setIfInBounds_toArray, List.set_cons_zero, List.set_cons_succ]
        refine wpAnyH_ready (rs := [7]) (by kernel_rfl) (by simp) ?_
        refine AllReadyH.cons rfl (fun K hK => ?_) AllReadyH.nil
        · skip
          go_simp
          refine hK.out _ _ trivial (fun hHeld => ?_)
          clear hK K hHeld
          try simp only [Act.put, List.setIfInBounds_toArray, List.set_cons_zero, List.set_cons_succ]
          refine wpAnyH_ready (rs := [8]) (by kernel_rfl) (by simp) ?_
          refine AllReadyH.cons rfl (fun K hK => ?_) AllReadyH.nil
          · skip
            go_simp
            refine hK.out _ _ trivial (fun hHeld => ?_)
            clear hK K hHeld
            try simp only [Act.put, List.setIfInBounds_toArray, List.set_cons_zero, List.set_cons_succ]
            refine wpAnyH_done (by kernel_rfl) ?_ _
            go_wp2_with fail
            go_meet
            obtain ⟨GB1, GB2⟩ := GB.out
            have GS := B6.out.size
            exact ⟨_, _, _, rfl, Lib.hid (LdI.of BU.out RU.out SU.out NN.out (below_alloc (below_alloc B6.out _) _) (Blk.new _ _ _ (by simp)) ((OO.out.alloc _).alloc _) (Blk.after (Blk.new w6 _ _ rfl) (below_alloc (Below.refl _ _) _)) (by omega) (by omega) (by omega) (by omega) (by omega) (by omega))⟩
      · skip
        go_simp
        refine hK.out _ _ trivial (fun hHeld => ?_)
        clear hK K hHeld
        try simp only [Act.put, List.setIfInBounds_toArray, List.set_cons_zero, List.set_cons_succ]
        refine wpAnyH_ready (rs := [4]) (by kernel_rfl) (by simp) ?_
        refine AllReadyH.cons rfl (fun K hK => ?_) AllReadyH.nil
        · skip
          go_simp
          refine hK.out _ _ trivial (fun hHeld => ?_)
          clear hK K hHeld
          try simp only [Act.put, List.setIfInBounds_toArray, List.set_cons_zero, List.set_cons_succ]
          refine wpAnyH_take (i := 6) (v := ?_) rfl (by kernel_rfl) (by kernel_rfl) (by kernel_rfl) (fun _ _ _ h => h) (Or.inl ⟨by rfl, ?_⟩) (by trivial) ?_
          rotate_left 1
          · intro w hSw; (try dsimp only at hSw); go_simp; try (with_reducible rfl)
          try simp only [Act.put, List.setIfInBounds_toArray, List.set_cons_zero, List.set_cons_succ]
          refine wpAnyH_ready (rs := [8]) (by kernel_rfl) (by simp) ?_
          refine AllReadyH.cons rfl (fun K hK => ?_) AllReadyH.nil
          · skip
            have T2 : Blk w6.heap.size #[.slice none 0 0, .slice none 0 0, .bool false] 158 ((w6.alloc (.cells #[.slice none 0 0, .slice none 0 0, .bool false] 158)).alloc (.cells (boC (List.replicate n false)).toArray 4)) := Blk.after (Blk.new w6 _ _ rfl) (below_alloc (Below.refl _ _) _)
            have s0 := T2.cell 0
            have s1 := T2.cell 1
            have s2 := T2.cell 2
            have g0 := T2.free 0
            have g1 := T2.free 1
            have g2 := T2.free 2
            go_simp
            refine hK.out _ _ trivial (fun hHeld => ?_)
            clear hK K hHeld
            try simp only [Act.put, List.setIfInBounds_toArray, List.set_cons_zero, List.set_cons_succ]
            refine wpAnyH_done (by kernel_rfl) ?_ _
            go_wp2_with fail
            go_meet
            obtain ⟨GB1, GB2⟩ := GB.out
            have GS := B6.out.size
            exact ⟨_, _, _, rfl, Lib.hid (LdI.of BU.out RU.out SU.out NN.out (below_alloc (below_alloc B6.out _) _) (Blk.after (Blk.new w6 _ _ rfl) (below_alloc (Below.refl _ _) _)) ((OO.out.alloc _).alloc _) (Blk.new _ _ _ (by simp)) (by omega) (by omega) (by omega) (by omega) (by omega) (by omega))⟩
    · skip
      go_simp
      refine hK.out _ _ trivial (fun hHeld => ?_)
      clear hK K hHeld
      try simp only [Act.put, List.setIfInBounds_toArray, List.set_cons_zero, List.set_cons_succ]
      refine wpAnyH_ready (rs := [1, 7]) (by kernel_rfl) (by simp) ?_
      refine AllReadyH.cons rfl (fun K hK => ?_) (AllReadyH.cons rfl (fun K hK => ?_) AllReadyH.nil)
      · skip
        go_simp
        have P0 : Below u.heap.size u (u.alloc (.cells (boC (List.replicate n false)).toArray 4)).drew := Below.drew (below_alloc (Below.refl _ _) _)
        refine (OWN.out _ (BU.out.trans (P0.mono BU.out.size))).mono ?_; rintro e w6 ⟨gb, rfl, ho, hb6⟩
        have OO := Lib.hid ho
        have B6 := Lib.hid (below_next' P0 hb6)
        have GB : Hid (u.heap.size + 1 ≤ gb ∧ gb < w6.heap.size) := Lib.hid (by have h : (u.alloc (.cells (boC (List.replicate n false)).toArray 4)).heap.size ≤ gb ∧ gb < w6.heap.size := ho.lt gb rfl; (try simp only [World.alloc, Array.size_push] at h); omega)
        have TM : Blk (u.heap.size) (boC (List.replicate n false)).toArray 4 w6 := Blk.after (w := (u.alloc (.cells (boC (List.replicate n false)).toArray 4)).drew) (show Blk (u.heap.size) (boC (List.replicate n false)).toArray 4 (u.alloc (.cells (boC (List.replicate n false)).toArray 4)) from (Blk.new u _ _ (by simp))) hb6
        clear ho hb6 P0
        go_wp2_with fail
        refine hK.out _ _ trivial (fun hHeld => ?_)
        clear hK K hHeld
        try simp only [Act.put, List.setIfInBounds_toArray, List.set_cons_zero, List.set_cons_succ]
        refine wpAnyH_take (i := 6) (v := ?_) rfl (by kernel_rfl) (by kernel_rfl) (by kernel_rfl) (fun _ _ _ h => h) (Or.inl ⟨by rfl, ?_⟩) (by trivial) ?_
        rotate_left 1
        · intro w hSw; (try dsimp only at hSw); go_simp; try (with_reducible rfl)
        try simp only [Act.put, List.setIfInBounds_toArray, List.set_cons_zero, List.set_cons_succ]
        refine wpAnyH_ready (rs := [7]) (by kernel_rfl) (by simp) ?_
        refine AllReadyH.cons rfl (fun K hK => ?_) AllReadyH.nil
        · skip
          go_simp
          refine hK.out _ _ trivial (fun hHeld => ?_)
          clear hK K hHeld
          try simp only [Act.put, List.setIfInBounds_toArray, List.set_cons_zero, List.set_cons_succ]
          refine wpAnyH_ready (rs := [8]) (by kernel_rfl) (by simp) ?_
          refine AllReadyH.cons rfl (fun K hK => ?_) AllReadyH.nil
          · skip
            go_simp
            refine hK.out _ _ trivial (fun hHeld => ?_)
            clear hK K hHeld
            try simp only [Act.put, List.setIfInBounds_toArray, List.set_cons_zero, List.set_cons_succ]
            refine wpAnyH_done (by kernel_rfl) ?_ _
            go_wp2_with fail
            go_meet
            obtain ⟨GB1, GB2⟩ := GB.out
            have GS := B6.out.size
            exact ⟨_, _, _, rfl, Lib.hid (LdI.of BU.out RU.out SU.out NN.out (below_alloc B6.out _) (Blk.new _ _ _ rfl) (OO.out.alloc _) (TM.after (below_alloc (Below.refl _ _) _)) (by omega) (by omega) (by omega) (by omega) (by omega) (by omega))⟩
      · skip
        go_simp
        refine hK.out _ _ trivial (fun hHeld => ?_)
        clear hK K hHeld
        try simp only [Act.put, List.setIfInBounds_toArray, List.set_cons_zero, List.set_cons_succ]
        refine wpAnyH_ready (rs := [1]) (by kernel_rfl) (by simp) ?_
        refine AllReadyH.cons rfl (fun K hK => ?_) AllReadyH.nil
        · skip
          go_simp
          have P0 : Below u.heap.size u ((u.alloc (.cells (boC (List.replicate n false)).toArray 4)).alloc (.cells #[.slice none 0 0, .slice none 0 0, .bool false] 158)).drew := Below.drew (below_alloc (below_alloc (Below.refl _ _) _) _)
          refine (OWN.out _ (BU.out.trans (P0.mono BU.out.size))).mono ?_; rintro e w6 ⟨gb, rfl, ho, hb6⟩
          have OO := Lib.hid ho
          have B6 := Lib.hid (below_next' P0 hb6)
          have GB : Hid (u.heap.size + 2 ≤ gb ∧ gb < w6.heap.size) := Lib.hid (by have h : ((u.alloc (.cells (boC (List.replicate n false)).toArray 4)).alloc (.cells #[.slice none 0 0, .slice none 0 0, .bool false] 158)).heap.size ≤ gb ∧ gb < w6.heap.size := ho.lt gb rfl; (try simp only [World.alloc, Array.size_push] at h); omega)
          have TM : Blk (u.heap.size) (boC (List.replicate n false)).toArray 4 w6 := Blk.after (w := ((u.alloc (.cells (boC (List.replicate n false)).toArray 4)).alloc (.cells #[.slice none 0 0, .slice none 0 0, .bool false] 158)).drew) (show Blk (u.heap.size) (boC (List.replicate n false)).toArray 4 ((u.alloc (.cells (boC (List.replicate n false)).toArray 4)).alloc (.cells #[.slice none 0 0, .slice none 0 0, .bool false] 158)) from (Blk.after (Blk.new u _ _ (by simp)) (below_alloc (Below.refl _ _) _))) hb6
          have TA : Blk (u.heap.size + 1) #[.slice none 0 0, .slice none 0 0, .bool false] 158 w6 := Blk.after (w := ((u.alloc (.cells (boC (List.replicate n false)).toArray 4)).alloc (.cells #[.slice none 0 0, .slice none 0 0, .bool false] 158)).drew) (show Blk (u.heap.size + 1) #[.slice none 0 0, .slice none 0 0, .bool false] 158 ((u.alloc (.cells (boC (List.replicate n false)).toArray 4)).alloc (.cells #[.slice none 0 0, .slice none 0 0, .bool false] 158)) from (Blk.new (u.alloc (.cells (boC (List.replicate n false)).toArray 4)) _ _ (by simp))) hb6
          have t0 := TA.cell 0
          have t1 := TA.cell 1
          have t2 := TA.cell 2
          have f0 := TA.free 0
          have f1 := TA.free 1
          have f2 := TA.free 2
          clear ho hb6 P0
          go_wp2_with fail
          refine hK.out _ _ trivial (fun hHeld => ?_)
          clear hK K hHeld
          try simp only [Act.put, List.setIfInBounds_toArray, List.set_cons_zero, List.set_cons_succ]
          refine wpAnyH_take (i := 6) (v := ?_) rfl (by kernel_rfl) (by kernel_rfl) (by kernel_rfl) (fun _ _ _ h => h) (Or.inl ⟨by rfl, ?_⟩) (by trivial) ?_
          rotate_left 1
          · intro w hSw; (try dsimp only at hSw); go_simp; try (with_reducible rfl)
          try simp only [Act.put, List.setIfInBounds_toArray, List.set_cons_zero, List.set_cons_succ]
          refine wpAnyH_ready (rs := [8]) (by kernel_rfl) (by simp) ?_
          refine AllReadyH.cons rfl (fun K hK => ?_) AllReadyH.nil
          · skip
            go_simp
            refine hK.out _ _ trivial (fun hHeld => ?_)
            clear hK K hHeld
            try simp only [Act.put, List.setIfInBounds_toArray, List.set_cons_zero, List.set_cons_succ]
            refine wpAnyH_done (by kernel_rfl) ?_ _
            go_wp2_with fail
            go_meet
            obtain ⟨GB1, GB2⟩ := GB.out
            have GS := B6.out.size
            exact ⟨_, _, _, rfl, Lib.hid (LdI.of BU.out RU.out SU.out NN.out (st3_below B6.out (by omega) _ _ _) (st3_blk TA _ _ _) (st3_own OO.out (by omega) _ _ _) (st3_other TM (by omega) _ _ _) (by omega) (by omega) (by omega) (by omega) (by omega) (by omega))⟩
    · skip
      go_simp
      refine hK.out _ _ trivial (fun hHeld => ?_)
      clear hK K hHeld
      try simp only [Act.put, List.setIfInBounds_toArray, List.set_cons_zero, List.set_cons_succ]
      refine wpAnyH_ready (rs := [1, 4]) (by kernel_rfl) (by simp) ?_
      refine AllReadyH.cons rfl (fun K hK => ?_) (AllReadyH.cons rfl (fun K hK => ?_) AllReadyH.nil)
      · skip
        go_simp
        have P0 : Below u.heap.size u (u.alloc (.cells #[.slice none 0 0, .slice none 0 0, .bool false] 158)).drew := Below.drew (below_alloc (Below.refl _ _) _)
        refine (OWN.out _ (BU.out.trans (P0.mono BU.out.size))).mono ?_; rintro e w6 ⟨gb, rfl, ho, hb6⟩
        have OO := Lib.hid ho
        have B6 := Lib.hid (below_next' P0 hb6)
        have GB : Hid (u.heap.size + 1 ≤ gb ∧ gb < w6.heap.size) := Lib.hid (by have h : (u.alloc (.cells #[.slice none 0 0, .slice none 0 0, .bool false] 158)).heap.size ≤ gb ∧ gb < w6.heap.size := ho.lt gb rfl; (try simp only [World.alloc, Array.size_push] at h); omega)
        have TA : Blk (u.heap.size) #[.slice none 0 0, .slice none 0 0, .bool false] 158 w6 := Blk.after (w := (u.alloc (.cells #[.slice none 0 0, .slice none 0 0, .bool false] 158)).drew) (show Blk (u.heap.size) #[.slice none 0 0, .slice none 0 0, .bool false] 158 (u.alloc (.cells #[.slice none 0 0, .slice none 0 0, .bool false] 158)) from (Blk.new u _ _ (by simp))) hb6
        have t0 := TA.cell 0
        have t1 := TA.cell 1
        have t2 := TA.cell 2
        have f0 := TA.free 0
        have f1 := TA.free 1
        have f2 := TA.free 2
        clear ho hb6 P0
        go_wp2_with fail
        refine hK.out _ _ trivial (fun hHeld => ?_)
        clear hK K hHeld
        try simp only [Act.put, List.setIfInBounds_toArray, List.set_cons_zero, List.set_cons_succ]
        refine wpAnyH_ready (rs := [4]) (by kernel_rfl) (by simp) ?_
        refine AllReadyH.cons rfl (fun K hK => ?_) AllReadyH.nil
        · skip
          go_simp
          refine hK.out _ _ trivial (fun hHeld => ?_)
          clear hK K hHeld
          try simp only [Act.put, List.setIfInBounds_toArray, List.set_cons_zero, List.set_cons_succ]
          refine wpAnyH_take (i := 6) (v := ?_) rfl (by kernel_rfl) (by kernel_rfl) (by kernel_rfl) (fun _ _ _ h => h) (Or.inl ⟨by rfl, ?_⟩) (by trivial) ?_
          rotate_left 1
          · intro w hSw; (try dsimp only at hSw); go_simp; try (with_reducible rfl)
          try simp only [Act.put, List.setIfInBounds_toArray, List.set_cons_zero, List.set_cons_succ]
          refine wpAnyH_ready (rs := [8]) (by kernel_rfl) (by simp) ?_
          refine AllReadyH.cons rfl (fun K hK => ?_) AllReadyH.nil
          · skip
            have T2 := Blk.after TA (below_alloc (Below.refl _ _) (.cells (boC (List.replicate n false)).toArray 4))
            have s0 := T2.cell 0
            have s1 := T2.cell 1
            have s2 := T2.cell 2
            have g0 := T2.free 0
            have g1 := T2.free 1
            have g2 := T2.free 2
            go_simp
            refine hK.out _ _ trivial (fun hHeld => ?_)
            clear hK K hHeld
            try simp only [Act.put, List.setIfInBounds_toArray, List.set_cons_zero, List.set_cons_succ]
            refine wpAnyH_done (by kernel_rfl) ?_ _
            go_wp2_with fail
            go_meet
            obtain ⟨GB1, GB2⟩ := GB.out
            have GS := B6.out.size
            exact ⟨_, _, _, rfl, Lib.hid (LdI.of BU.out RU.out SU.out NN.out (st3_below (below_alloc B6.out _) (by omega) _ _ _) (st3_blk (Blk.after TA (below_alloc (Below.refl _ _) _)) _ _ _) (st3_own (OO.out.alloc _) (by omega) _ _ _) (st3_other (Blk.new _ _ _ rfl) (by omega) _ _ _) (by omega) (by omega) (by omega) (by omega) (by omega) (by omega))⟩
      · skip
        go_simp
        refine hK.out _ _ trivial (fun hHeld => ?_)
        clear hK K hHeld
        try simp only [Act.put, List.setIfInBounds_toArray, List.set_cons_zero, List.set_cons_succ]
        refine wpAnyH_ready (rs := [1]) (by kernel_rfl) (by simp) ?_
        refine AllReadyH.cons rfl (fun K hK => ?_) AllReadyH.nil
        · skip
          go_simp
          have P0 : Below u.heap.size u ((u.alloc (.cells #[.slice none 0 0, .slice none 0 0, .bool false] 158)).alloc (.cells (boC (List.replicate n false)).toArray 4)).drew := Below.drew (below_alloc (below_alloc (Below.refl _ _) _) _)
          refine (OWN.out _ (BU.out.trans (P0.mono BU.out.size))).mono ?_; rintro e w6 ⟨gb, rfl, ho, hb6⟩
          have OO := Lib.hid ho
          have B6 := Lib.hid (below_next' P0 hb6)
          have GB : Hid (u.heap.size + 2 ≤ gb ∧ gb < w6.heap.size) := Lib.hid (by have h : ((u.alloc (.cells #[.slice none 0 0, .slice none 0 0, .bool false] 158)).alloc (.cells (boC (List.replicate n false)).toArray 4)).heap.size ≤ gb ∧ gb < w6.heap.size := ho.lt gb rfl; (try simp only [World.alloc, Array.size_push] at h); omega)
          have TA : Blk (u.heap.size) #[.slice none 0 0, .slice none 0 0, .bool false] 158 w6 := Blk.after (w := ((u.alloc (.cells #[.slice none 0 0, .slice none 0 0, .bool false] 158)).alloc (.cells (boC (List.replicate n false)).toArray 4)).drew) (show Blk (u.heap.size) #[.slice none 0 0, .slice none 0 0, .bool false] 158 ((u.alloc (.cells #[.slice none 0 0, .slice none 0 0, .bool false] 158)).alloc (.cells (boC (List.replicate n false)).toArray 4)) from (Blk.after (Blk.new u _ _ (by simp)) (below_alloc (Below.refl _ _) _))) hb6
          have TM : Blk (u.heap.size + 1) (boC (List.replicate n false)).toArray 4 w6 := Blk.after (w := ((u.alloc (.cells #[.slice none 0 0, .slice none 0 0, .bool false] 158)).alloc (.cells (boC (List.replicate n false)).toArray 4)).drew) (show Blk (u.heap.size + 1) (boC (List.replicate n false)).toArray 4 ((u.alloc (.cells #[.slice none 0 0, .slice none 0 0, .bool false] 158)).alloc (.cells (boC (List.replicate n false)).toArray 4)) from (Blk.new (u.alloc (.cells #[.slice none 0 0, .slice none 0 0, .bool false] 158)) _ _ (by simp))) hb6
          have t0 := TA.cell 0
          have t1 := TA.cell 1
          have t2 := TA.cell 2
          have f0 := TA.free 0
          have f1 := TA.free 1
          have f2 := TA.free 2
          clear ho hb6 P0
          go_wp2_with fail
          refine hK.out _ _ trivial (fun hHeld => ?_)
          clear hK K hHeld
          try simp only [Act.put, List.setIfInBounds_toArray, List.set_cons_zero, List.set_cons_succ]
          refine wpAnyH_take (i := 6) (v := ?_) rfl (by kernel_rfl) (by kernel_rfl) (by kernel_rfl) (fun _ _ _ h => h) (Or.inl ⟨by rfl, ?_⟩) (by trivial) ?_
          rotate_left 1
          · intro w hSw; (try dsimp only at hSw); go_simp; try (with_reducible rfl)
          try simp only [Act.put, List.setIfInBounds_toArray, List.set_cons_zero, List.set_cons_succ]
          refine wpAnyH_ready (rs := [8]) (by kernel_rfl) (by simp) ?_
          refine AllReadyH.cons rfl (fun K hK => ?_) AllReadyH.nil
          · skip
            go_simp
            refine hK.out _ _ trivial (fun hHeld => ?_)
            clear hK K hHeld
            try simp only [Act.put, List.setIfInBounds_toArray, List.set_cons_zero, List.set_cons_succ]
            refine wpAnyH_done (by kernel_rfl) ?_ _
            go_wp2_with fail
            go_meet
            obtain ⟨GB1, GB2⟩ := GB.out
            have GS := B6.out.size
            exact ⟨_, _, _, rfl, Lib.hid (LdI.of BU.out RU.out SU.out NN.out (st3_below B6.out (by omega) _ _ _) (st3_blk TA _ _ _) (st3_own OO.out (by omega) _ _ _) (st3_other TM (by omega) _ _ _) (by omega) (by omega) (by omega) (by omega) (by omega) (by omega))⟩
  case rest =>
    obtain ⟨gr, gb, gk, rfl, X⟩ := hcut
    clear hm OWN BU RU SU
    go_wp2_with fail
    go_loopw [18] (fun iv wr => ∃ j : Nat, iv = .int .i64 j ∧ j ≤ n ∧ Hid (LdI w n b fx gr gb gk (List.replicate j bl ++ List.replicate (n - j) false) wr)) (fun iv wr => n - (intOf iv).toNat)
    case atStart => exact ⟨0, rfl, by omega, Lib.hid (by rw [List.replicate_zero, List.nil_append, Nat.sub_zero]; exact X.out)⟩
    case round =>
      clear X
      obtain ⟨j, rfl, hj, X⟩ := hrel
      have j0 : (0 : Int) ≤ j := by omega
      by_cases hlt : (j : Int) < n
      · have hjn : j < n := by omega
        have XS : Hid (LdI w n b fx gr gb gk (List.replicate (j + 1) bl ++ List.replicate (n - (j + 1)) false) (wr.setCell ⟨gk, j, none⟩ (.bool bl))) := Lib.hid (by
          rw [← set_next n j bl hjn]
          exact X.out.step bl)
        have x1 := X.out.var.cell 1
        have ck := X.out.rk.cellAt j (by omega)
        rw [boC_at _ (by simp; omega)] at ck
        have fk := X.out.rk.frozenAt j
        go_wp2_with fail
        go_round
        case rel => exact ⟨j + 1, by go_num, by omega, XS⟩
        case measure => simp [intOf]; omega
      · have hjn : j = n := by omega
        subst hjn
        rw [Nat.sub_self, List.replicate_zero, List.append_nil] at X
        have x0 := X.out.var.cell 0
        have x1 := X.out.var.cell 1
        have x2 := X.out.var.cell 2
        have c0 := X.out.ret.cell 0
        have c1 := X.out.ret.cell 1
        have c2 := X.out.ret.cell 2
        have d0 := X.out.ret.free 0
        have d1 := X.out.ret.free 1
        have d2 := X.out.ret.free 2
        have HX := X
        clear X
        have XE : Hid (∀ x : World, x = st3 wr w.heap.size (.slice (some ⟨gb, 0, none⟩) j j) (.slice (some ⟨gk, 0, none⟩) j j) (.bool fx) → x.ownsRow w.heap.size 5 1 (.slice (some ⟨gb, 0, none⟩) j j) j (byC b) ∧ x.ownsRow w.heap.size 4 1 (.slice (some ⟨gk, 0, none⟩) j j) j (boC (List.replicate j bl)) ∧ gb ≠ gk ∧ Below w.heap.size w x) := Lib.hid (by
          rintro x rfl
          have h1 := HX.out.gb1
          have h2 := HX.out.gk1
          exact ⟨st3_own HX.out.rb (by omega) _ _ _, st3_own HX.out.rk (by omega) _ _ _, HX.out.n3, st3_below HX.out.below (Nat.le_refl _) _ _ _⟩)
        go_wp2_with fail
        exact bodyPost_ret (v := .agg #[.slice (some ⟨gb, 0, none⟩) j j, .slice (some ⟨gk, 0, none⟩) j j, .bool fx]) (by simp [results, Tryz.results92, go_sem, c0, c1, c2]) rfl ⟨gb, gk, rfl, XE.out _ rfl⟩
end Go.Proofs.YtlbhffdpklbhfaaGreat
