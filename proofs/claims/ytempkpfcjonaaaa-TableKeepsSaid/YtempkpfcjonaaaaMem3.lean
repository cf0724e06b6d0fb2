/-
  Layer 8, the program's find.
  Conditions: the numbers fit their kinds; no more bytes than an area may have.
-/
import Derived.Test.YtempkpfcjonaaaaMem2
import Derived.Test.YtempkpfcjonaaaaMemMath
namespace Go.Proofs.Ytempkpfcjonaaaa
open Go.RowKit
set_option maxRecDepth 100000
set_option linter.unusedVariables false
set_option linter.unusedSimpArgs false

theorem RepQ.look {w : World} {g : Nat} {mv : Value} {L : List AR} {F : Nat → Prop} (h : RepQ w g mv L F) (u : World) (b : Below w.heap.size w u) (i : Int) (hi : -9223372036854775808 ≤ i ∧ i ≤ 9223372036854775807) :
    (Instr.lookup 70 mv (.int .i64 i) true).run Try.prog u = .ok (.tuple #[(rgF L i).getD rgZ, .bool (rgF L i).isSome]) u :=
  (h.map.same (w' := u) (fun x hx => b.block x (h.map.lt hx))).look i hi
theorem rgF_some {L : List AR} {i : Int} {k : Nat} (h : pIx (arM L) i = some k) : rgF L i = some (rgV (arAt L k)) := by unfold rgF; rw [h]; rfl
theorem rgF_none {L : List AR} {i : Int} (h : pIx (arM L) i = none) : rgF L i = none := by unfold rgF; rw [h]; rfl
theorem RepQ.after {w u : World} {g : Nat} {mv : Value} {L : List AR} {F : Nat → Prop} (h : RepQ w g mv L F) (b : Below w.heap.size w u) : RepQ u g mv L F := h.keep fun x hx => b.block x (h.lt hx)

set_option maxRecDepth 100000 in
set_option maxHeartbeats 2000000 in
theorem c8_find_in (w : World) (g : Nat) (mv : Value) (L : List AR) (F : Nat → Prop) (at_ s : Int) (h : RepQ w g mv L F) (ha : 0 ≤ at_ ∧ at_ ≤ 18446744073709551615) (hs : 0 ≤ s ∧ s ≤ 1024) (k o : Nat) (hw : pWh (arM L) at_ s = some (k, o)) :
    Calls Try.prog 49 #[.pointer (some ⟨g, 0, none⟩), .int .u64 at_, .int .i64 s] w (Gives (.tuple #[rgV (arAt L k), .int .i64 o, .bool true]) w) := by
  obtain ⟨hx, hk, ho, hfit, _⟩ := pWh_some hw
  rw [arM_len] at hk
  rw [arM_at] at hfit
  have hfit2 := hfit hs.1
  have hok := h.ok k (by rw [arM_len]; exact hk)
  rw [arM_at] at hok
  obtain ⟨_, hbl, hb1024, _⟩ := hok
  have c0 := cell_alloc h.cell (.cells #[.slice none 0 0, .slice none 0 0, .bool false] 96)
  have HLK := h.look (w.alloc (.cells #[.slice none 0 0, .slice none 0 0, .bool false] 96)) (below_alloc (Below.refl _ _) _) (at_ / 4294967296) (by omega)
  rw [rgF_some hx] at HLK
  have hand : bits .and .u64 at_ 4294967295 = at_ % 4294967296 := by
    have := and_low (n := at_) (k := 32) ha (by omega)
    simpa using this
  rw [ho] at hand
  obtain ⟨Ab, cb, hvb, _, _⟩ := own_slice (h.own k hk).1
  obtain ⟨Ak, ck, hvk, _, _⟩ := own_slice (h.own k hk).2
  have hv : rgV (arAt L k) = .agg #[.slice Ab (arAt L k).a.b.length cb, .slice Ak (arAt L k).a.bl.length ck, .bool (arAt L k).a.fx] := by unfold rgV; rw [hvb, hvk]
  rw [hv] at HLK ⊢
  dsimp only [Option.getD_some, Option.isSome_some] at HLK
  generalize (arAt L k).a.fx = fx at *
  generalize (arAt L k).a.b.length = lb at *
  generalize (arAt L k).a.bl.length = lk at *
  have hq : 0 ≤ at_ / 4294967296 ∧ at_ / 4294967296 ≤ 4294967295 := by omega
  have hon : o < 4294967296 := by omega
  generalize hqq : at_ / 4294967296 = q at *
  have hfz : (o : Int) + s ≤ lb := by omega
  have hsum : IntKind.u64.wrap ((o : Int) + s) = (o : Int) + s := by rw [IntKind.wrap_u64]; omega
  have o0 : (0 : Int) ≤ o := by omega
  clear h hw hx hfit hfit2 ho hbl hvb hvk hv
  go_enter Try.func49, Try.ntmps49
  go_wp2_with fail
  exact bodyPost_ret (v := .tuple #[.agg #[.slice Ab lb cb, .slice Ak lk ck, .bool fx], .int .i64 o, .bool true]) (by simp [results, Try.results49, go_sem, World.cell?_alloc_new]) rfl ⟨rfl, below_alloc (Below.refl _ _) _⟩

set_option maxRecDepth 100000 in
set_option maxHeartbeats 2000000 in
theorem c8_find_out (w : World) (g : Nat) (mv : Value) (L : List AR) (F : Nat → Prop) (at_ s : Int) (h : RepQ w g mv L F) (ha : 0 ≤ at_ ∧ at_ ≤ 18446744073709551615) (hs : 0 ≤ s ∧ s ≤ 1024) (hw : pWh (arM L) at_ s = none) :
    Calls Try.prog 49 #[.pointer (some ⟨g, 0, none⟩), .int .u64 at_, .int .i64 s] w (Gives (.tuple #[rgZ, .int .i64 0, .bool false]) w) := by
  have c0 := cell_alloc h.cell (.cells #[.slice none 0 0, .slice none 0 0, .bool false] 96)
  have HLK := h.look (w.alloc (.cells #[.slice none 0 0, .slice none 0 0, .bool false] 96)) (below_alloc (Below.refl _ _) _) (at_ / 4294967296) (by omega)
  have hand : bits .and .u64 at_ 4294967295 = at_ % 4294967296 := by
    have := and_low (n := at_) (k := 32) ha (by omega)
    simpa using this
  have hq : 0 ≤ at_ / 4294967296 ∧ at_ / 4294967296 ≤ 4294967295 := by omega
  have hz : rgZ = .agg #[.slice none 0 0, .slice none 0 0, .bool false] := rfl
  have hs' := hs
  obtain ⟨o, ho⟩ : ∃ o : Nat, at_ % 4294967296 = o := ⟨(at_ % 4294967296).toNat, by omega⟩
  have hon : o < 4294967296 := by omega
  have o0 : (0 : Int) ≤ o := by omega
  rw [ho] at hand
  cases hx : pIx (arM L) (at_ / 4294967296) with
  | none =>
    rw [rgF_none hx] at HLK
    dsimp only [Option.getD_none, Option.isSome_none] at HLK
    rw [hz] at HLK ⊢
    generalize hqq : at_ / 4294967296 = q at *
    clear h hw hx hz ho
    go_enter Try.func49, Try.ntmps49
    go_wp2_with fail
    exact bodyPost_ret (v := .tuple #[.agg #[.slice none 0 0, .slice none 0 0, .bool false], .int .i64 0, .bool false]) (by simp [results, Try.results49, go_sem, World.cell?_alloc_new]) rfl ⟨rfl, below_alloc (Below.refl _ _) _⟩
  | some k =>
    have hk := (pIx_some hx).1
    rw [arM_len] at hk
    have hok := h.ok k (by rw [arM_len]; exact hk)
    rw [arM_at] at hok
    obtain ⟨_, hbl, hb1024, _⟩ := hok
    rw [rgF_some hx] at HLK
    obtain ⟨Ab, cb, hvb, _, _⟩ := own_slice (h.own k hk).1
    obtain ⟨Ak, ck, hvk, _, _⟩ := own_slice (h.own k hk).2
    have hv : rgV (arAt L k) = .agg #[.slice Ab (arAt L k).a.b.length cb, .slice Ak (arAt L k).a.bl.length ck, .bool (arAt L k).a.fx] := by unfold rgV; rw [hvb, hvk]
    rw [hv] at HLK
    rw [hz]
    dsimp only [Option.getD_some, Option.isSome_some] at HLK
    have hno : ¬ ((o : Int) + s ≤ ((arAt L k).a.b.length : Int)) := fun hc => by
      unfold pWh at hw
      rw [hx] at hw
      simp only at hw
      rw [arM_at, ho, if_pos (by omega)] at hw
      cases hw
    generalize (arAt L k).a.fx = fx at *
    generalize (arAt L k).a.b.length = lb at *
    generalize (arAt L k).a.bl.length = lk at *
    have hsum : IntKind.u64.wrap ((o : Int) + s) = (o : Int) + s := by rw [IntKind.wrap_u64]; omega
    have hlt : (lb : Int) < (o : Int) + s := by omega
    generalize hqq : at_ / 4294967296 = q at *
    clear h hw hx hz ho hbl hvb hvk hv hno
    go_enter Try.func49, Try.ntmps49
    go_wp2_with fail
    exact bodyPost_ret (v := .tuple #[.agg #[.slice none 0 0, .slice none 0 0, .bool false], .int .i64 0, .bool false]) (by simp [results, Try.results49, go_sem, World.cell?_alloc_new]) rfl ⟨rfl, below_alloc (Below.refl _ _) _⟩

end Go.Proofs.Ytempkpfcjonaaaa
