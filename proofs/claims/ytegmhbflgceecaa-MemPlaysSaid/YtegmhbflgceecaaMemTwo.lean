/-
  Layer 8: the program's memory and the document's own, in one world, with blocks beside them that stay.
  Conditions: the numbers fit their kinds.
-/
import Derived.Test.YtegmhbflgceecaaMemKit
import Derived.Test.YtegmhbflgceecaaRef08m
namespace Go.Proofs.Ytegmhbflgceecaa
open Go.RowKit
set_option linter.unusedVariables false
set_option linter.unusedSimpArgs false

abbrev Bks := List (Nat × Array Value × TypeId)
/-- The program's memory lies at g1, the document's own at g2, other blocks of the law's beside them. -/
structure Two (w0 : World) (g1 g2 : Nat) (M N : PM) (l : Bks) (u : World) : Prop where
  below : Below w0.heap.size w0 u
  ex : ∃ F G, RepP u g1 M F ∧ RepR u g2 N G ∧ (∀ x, F x → ¬ G x) ∧ (∀ x, F x → w0.heap.size ≤ x) ∧ (∀ x, G x → w0.heap.size ≤ x) ∧ ∀ p ∈ l, ¬ F p.1 ∧ ¬ G p.1
  blks : ∀ p ∈ l, Blk p.1 p.2.1 p.2.2 u
section
variable {w0 u u' : World} {g1 g2 : Nat} {M N M' N' : PM} {l : Bks}
theorem Two.after (h : Two w0 g1 g2 M N l u) (b : Below u.heap.size u u') : Two w0 g1 g2 M N l u' := by
  obtain ⟨h1, ⟨F, G, p, r, q⟩, h3⟩ := h
  exact ⟨below_next' h1 b, ⟨F, G, p.after b, r.after b, q⟩, fun p hp => (h3 p hp).after b⟩
theorem Two.okM (h : Two w0 g1 g2 M N l u) : PMok M := by
  obtain ⟨_, ⟨F, G, p, _⟩, _⟩ := h
  exact p.ok
theorem Two.add (h : Two w0 g1 g2 M N l u) {g : Nat} {cs : Array Value} {t : TypeId} (b : Below u.heap.size u u') (hg : u.heap.size ≤ g) (hb : Blk g cs t u') : Two w0 g1 g2 M N ((g, cs, t) :: l) u' := by
  obtain ⟨h1, ⟨F, G, p, r, q1, q2, q3, q4⟩, h3⟩ := h
  refine ⟨below_next' h1 b, ⟨F, G, p.after b, r.after b, q1, q2, q3, fun x hx => ?_⟩, fun x hx => ?_⟩
  · rcases List.mem_cons.mp hx with rfl | hx
    · exact ⟨fun hF => by have := p.lt hF; simp only at this; omega, fun hG => by have := r.lt hG; simp only at this; omega⟩
    · exact q4 x hx
  · rcases List.mem_cons.mp hx with rfl | hx
    · exact hb
    · exact (h3 x hx).after b
theorem Two.less (h : Two w0 g1 g2 M N l u) {l' : Bks} (hl : ∀ p ∈ l', p ∈ l) : Two w0 g1 g2 M N l' u := by
  obtain ⟨h1, ⟨F, G, p, r, q1, q2, q3, q4⟩, h3⟩ := h
  exact ⟨h1, ⟨F, G, p, r, q1, q2, q3, fun x hx => q4 x (hl x hx)⟩, fun x hx => h3 x (hl x hx)⟩
theorem Two.head {g : Nat} {cs : Array Value} {t : TypeId} (h : Two w0 g1 g2 M N ((g, cs, t) :: l) u) : Blk g cs t u := h.blks (g, cs, t) (by simp)
theorem Two.tail {p : Nat × Array Value × TypeId} (h : Two w0 g1 g2 M N (p :: l) u) : Two w0 g1 g2 M N l u := h.less fun q hq => by simp [hq]
theorem two_P {F : Nat → Prop} {v : Value} {e : Ending} (h1 : Below w0.heap.size w0 u) (r : ∃ G, RepR u g2 N G ∧ (∀ x, F x → ¬ G x) ∧ (∀ x, F x → w0.heap.size ≤ x) ∧ (∀ x, G x → w0.heap.size ≤ x) ∧ ∀ p ∈ l, ¬ F p.1 ∧ ¬ G p.1) (h3 : ∀ p ∈ l, Blk p.1 p.2.1 p.2.2 u)
    (h : MemW RepP g1 F M' v u e u') : e = .returned v ∧ Two w0 g1 g2 M' N l u' := by
  obtain ⟨he, F', p', t, hF'⟩ := h
  obtain ⟨G, r, q1, q2, q3, q4⟩ := r
  have hs := h1.size
  refine ⟨he, Turn.on h1 t h1.size q2, ⟨F', G, p', r.turn t (fun x hG hF => q1 x hF hG), fun x hx hG => ?_, fun x hx => ?_, q3, fun p hp => ⟨fun hx => ?_, (q4 p hp).2⟩⟩, fun p hp => ?_⟩
  · rcases hF' x hx with c | c
    · exact q1 x c hG
    · have := r.lt hG; omega
  · rcases hF' x hx with c | c
    · exact q2 x c
    · omega
  · rcases hF' p.1 hx with c | c
    · exact (q4 p hp).1 c
    · have := (h3 p hp).lt; omega
  · exact Blk.same (h3 p hp) (t.block p.1 (h3 p hp).lt (q4 p hp).1)
theorem two_R {G : Nat → Prop} {v : Value} {e : Ending} (h1 : Below w0.heap.size w0 u) (r : ∃ F, RepP u g1 M F ∧ (∀ x, F x → ¬ G x) ∧ (∀ x, F x → w0.heap.size ≤ x) ∧ (∀ x, G x → w0.heap.size ≤ x) ∧ ∀ p ∈ l, ¬ F p.1 ∧ ¬ G p.1) (h3 : ∀ p ∈ l, Blk p.1 p.2.1 p.2.2 u)
    (h : MemW RepR g2 G N' v u e u') : e = .returned v ∧ Two w0 g1 g2 M N' l u' := by
  obtain ⟨he, G', p', t, hG'⟩ := h
  obtain ⟨F, r, q1, q2, q3, q4⟩ := r
  have hs := h1.size
  refine ⟨he, Turn.on h1 t h1.size q3, ⟨F, G', r.turn t (fun x hF hG => q1 x hF hG), p', fun x hx hG => ?_, q2, fun x hx => ?_, fun p hp => ⟨(q4 p hp).1, fun hx => ?_⟩⟩, fun p hp => ?_⟩
  · rcases hG' x hG with c | c
    · exact q1 x hx c
    · have := r.lt hx; omega
  · rcases hG' x hx with c | c
    · exact q3 x c
    · omega
  · rcases hG' p.1 hx with c | c
    · exact (q4 p hp).2 c
    · have := (h3 p hp).lt; omega
  · exact Blk.same (h3 p hp) (t.block p.1 (h3 p hp).lt (q4 p hp).2)
end
section
variable {w0 u : World} {g1 g2 : Nat} {M N : PM} {l : Bks}
theorem tp_Make (i : Int) (b : List Int) (B : Option Addr) (n d : Nat) (bl fx : Bool) (h : Two w0 g1 g2 M N l u) (hb : BytS u B b) (hob : OkB b) (hn : b.length = n) (hd : n ≤ d) (hmd : d ≤ maxLen) (hM : M.length ≤ 100000) (hi : -9223372036854775808 ≤ i ∧ i ≤ 9223372036854775807) :
    Calls Try.prog 14 #[.pointer (some ⟨g1, 0, none⟩), .int .i64 i, .slice B n d, .bool bl, .bool fx] u (fun e u' => e = .returned (.int .i64 (pMake M i b bl fx).2) ∧ Two w0 g1 g2 (pMake M i b bl fx).1 N l u') := by
  subst hn
  obtain ⟨h1, ⟨F, G, p, r, q⟩, h3⟩ := h
  exact (c8_Make u g1 M F i b B d bl fx p hi hb hob hd hmd hM).mono fun e w' hw => two_P h1 ⟨G, r, q⟩ h3 hw
theorem tr_Make (i : Int) (b : List Int) (B : Option Addr) (n d : Nat) (bl fx : Bool) (h : Two w0 g1 g2 M N l u) (hb : BytS u B b) (hob : OkB b) (hn : b.length = n) (hd : n ≤ d) (hmd : d ≤ maxLen) (hM : N.length ≤ 100000) :
    Calls Try.prog 15 #[.pointer (some ⟨g2, 0, none⟩), .int .i64 i, .slice B n d, .bool bl, .bool fx] u (fun e u' => e = .returned (.int .i64 (pMake N i b bl fx).2) ∧ Two w0 g1 g2 M (pMake N i b bl fx).1 l u') := by
  subst hn
  obtain ⟨h1, ⟨F, G, p, r, q⟩, h3⟩ := h
  exact (r8_Make u g2 N G i b B d bl fx r hb hob hd hmd hM).mono fun e w' hw => two_R h1 ⟨F, p, q⟩ h3 hw
theorem tp_Store (at_ s n : Int) (h : Two w0 g1 g2 M N l u) (ha : 0 ≤ at_ ∧ at_ ≤ 18446744073709551615) (hn : 0 ≤ n ∧ n ≤ 18446744073709551615) :
    Calls Try.prog 20 #[.pointer (some ⟨g1, 0, none⟩), .int .u64 at_, .int .i64 s, .int .u64 n] u (fun e u' => e = .returned (.int .i64 (pStore M at_ s n).2) ∧ Two w0 g1 g2 (pStore M at_ s n).1 N l u') := by
  obtain ⟨h1, ⟨F, G, p, r, q⟩, h3⟩ := h
  exact (c8_Store u g1 M F at_ s n p ha hn).mono fun e w' hw => two_P h1 ⟨G, r, q⟩ h3 hw
theorem tr_Store (at_ s n : Int) (h : Two w0 g1 g2 M N l u) (ha : 0 ≤ at_ ∧ at_ ≤ 18446744073709551615) (hn : 0 ≤ n ∧ n ≤ 18446744073709551615) :
    Calls Try.prog 21 #[.pointer (some ⟨g2, 0, none⟩), .int .u64 at_, .int .i64 s, .int .u64 n] u (fun e u' => e = .returned (.int .i64 (pStore N at_ s n).2) ∧ Two w0 g1 g2 M (pStore N at_ s n).1 l u') := by
  obtain ⟨h1, ⟨F, G, p, r, q⟩, h3⟩ := h
  exact (r8_Store u g2 N G at_ s n r ha hn).mono fun e w' hw => two_R h1 ⟨F, p, q⟩ h3 hw
theorem tp_Load (at_ s : Int) (h : Two w0 g1 g2 M N l u) (ha : 0 ≤ at_ ∧ at_ ≤ 18446744073709551615) :
    Calls Try.prog 16 #[.pointer (some ⟨g1, 0, none⟩), .int .u64 at_, .int .i64 s] u (fun e u' => e = .returned (.tuple #[.int .u64 (pLoad M at_ s).1, .int .i64 (pLoad M at_ s).2]) ∧ Two w0 g1 g2 M N l u') := by
  have hh := h
  obtain ⟨h1, ⟨F, G, p, r, q⟩, h3⟩ := h
  exact (c8_Load u g1 M F at_ s p ha).mono fun e w' hw => ⟨hw.1, hh.after hw.2⟩
theorem tr_Load (at_ s : Int) (h : Two w0 g1 g2 M N l u) (ha : 0 ≤ at_ ∧ at_ ≤ 18446744073709551615) :
    Calls Try.prog 17 #[.pointer (some ⟨g2, 0, none⟩), .int .u64 at_, .int .i64 s] u (fun e u' => e = .returned (.tuple #[.int .u64 (pLoad N at_ s).1, .int .i64 (pLoad N at_ s).2]) ∧ Two w0 g1 g2 M N l u') := by
  have hh := h
  obtain ⟨h1, ⟨F, G, p, r, q⟩, h3⟩ := h
  exact (r8_Load u g2 N G at_ s r ha).mono fun e w' hw => ⟨hw.1, hh.after hw.2⟩
theorem tp_Read (at_ s : Int) (h : Two w0 g1 g2 M N l u) (ha : 0 ≤ at_ ∧ at_ ≤ 18446744073709551615) :
    Calls Try.prog 18 #[.pointer (some ⟨g1, 0, none⟩), .int .u64 at_, .int .i64 s] u (fun e u' => ∃ A c, e = .returned (.tuple #[.slice A (pRead M at_ s).1.length c, .int .i64 (pRead M at_ s).2]) ∧ BytS u' A (pRead M at_ s).1 ∧ Two w0 g1 g2 M N l u') := by
  have hh := h
  obtain ⟨h1, ⟨F, G, p, r, q⟩, h3⟩ := h
  exact (c8_Read u g1 M F at_ s p ha).mono fun e w' ⟨A, c, he, hb, _, _, hw⟩ => ⟨A, c, he, hb, hh.after hw⟩
theorem tr_Read (at_ s : Int) (h : Two w0 g1 g2 M N l u) (ha : 0 ≤ at_ ∧ at_ ≤ 18446744073709551615) {C : Option Addr} {x : List Int} (hC : BytS u C x) :
    Calls Try.prog 19 #[.pointer (some ⟨g2, 0, none⟩), .int .u64 at_, .int .i64 s] u (fun e u' => ∃ A c, e = .returned (.tuple #[.slice A (pRead N at_ s).1.length c, .int .i64 (pRead N at_ s).2]) ∧ BytS u' A (pRead N at_ s).1 ∧ BytS u' C x ∧ Two w0 g1 g2 M N l u') := by
  have hh := h
  obtain ⟨h1, ⟨F, G, p, r, q⟩, h3⟩ := h
  exact (r8_Read u g2 N G at_ s r ha).mono fun e w' ⟨A, c, he, hb, _, _, hw⟩ => ⟨A, c, he, hb, hC.after hw, hh.after hw⟩
theorem tp_Area (i : Int) (h : Two w0 g1 g2 M N l u) (hi : -9223372036854775808 ≤ i ∧ i ≤ 9223372036854775807) :
    Calls Try.prog 22 #[.pointer (some ⟨g1, 0, none⟩), .int .i64 i] u (fun e u' => ∃ A c, e = .returned (.tuple #[.slice A (pArea M i).1.length c, .bool (pArea M i).2]) ∧ BytS u' A (pArea M i).1 ∧ Two w0 g1 g2 M N l u') := by
  have hh := h
  obtain ⟨h1, ⟨F, G, p, r, q⟩, h3⟩ := h
  exact (c8_Area u g1 M F i p hi).mono fun e w' ⟨A, c, he, hb, _, _, hw⟩ => ⟨A, c, he, hb, hh.after hw⟩
theorem tr_Area (i : Int) (h : Two w0 g1 g2 M N l u) {C : Option Addr} {x : List Int} (hC : BytS u C x) :
    Calls Try.prog 23 #[.pointer (some ⟨g2, 0, none⟩), .int .i64 i] u (fun e u' => ∃ A c, e = .returned (.tuple #[.slice A (pArea N i).1.length c, .bool (pArea N i).2]) ∧ BytS u' A (pArea N i).1 ∧ BytS u' C x ∧ Two w0 g1 g2 M N l u') := by
  have hh := h
  obtain ⟨h1, ⟨F, G, p, r, q⟩, h3⟩ := h
  exact (r8_Area u g2 N G i r).mono fun e w' ⟨A, c, he, hb, _, _, hw⟩ => ⟨A, c, he, hb, hC.after hw, hh.after hw⟩
end

end Go.Proofs.Ytegmhbflgceecaa
