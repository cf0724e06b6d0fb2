/-
  Texts, one behind the other: AluSwapMath, AluDid, AluLeaf.
  Conditions: those that each theorem states.
-/
import Derived.Test.YtlbhffdpklbhfaaGreatPz2
import Derived.Test.YtlbhffdpklbhfaaGreatPz1
import Derived.WalkKit
import Derived.WalkSpells
import Derived.WalkLawsBesides
import Derived.Deep.QuietTactic
import Derived.BigQuiet
import Derived.Outline
import Derived.Lib.Hide
import Derived.Test.YtlbhffdpklbhfaaGreatRows
namespace Go.Proofs.YtlbhffdpklbhfaaGreat
open Go Go.RowKit
set_option linter.unusedVariables false
theorem and_cons (x y p q : Nat) (hx : x < 65536) (hy : y < 65536) : (x + 65536 * p) &&& (y + 65536 * q) = (x &&& y) + 65536 * (p &&& q) := by
  have e : ∀ a m : Nat, a &&& m = (a % 2 ^ 16 &&& m % 2 ^ 16) + 2 ^ 16 * (a / 2 ^ 16 &&& m / 2 ^ 16) := fun a m => by
    rw [← Nat.and_mod_two_pow, ← Nat.and_div_two_pow, Nat.mod_add_div]
  rw [e, show (x + 65536 * p) % 2 ^ 16 = x by omega, show (y + 65536 * q) % 2 ^ 16 = y by omega, show (x + 65536 * p) / 2 ^ 16 = p by omega, show (y + 65536 * q) / 2 ^ 16 = q by omega]
theorem or_cons (x y p q : Nat) (hx : x < 65536) (hy : y < 65536) : (x + 65536 * p) ||| (y + 65536 * q) = (x ||| y) + 65536 * (p ||| q) := by
  have e : ∀ a m : Nat, a ||| m = (a % 2 ^ 16 ||| m % 2 ^ 16) + 2 ^ 16 * (a / 2 ^ 16 ||| m / 2 ^ 16) := fun a m => by
    rw [← Nat.or_mod_two_pow, ← Nat.or_div_two_pow, Nat.mod_add_div]
  rw [e, show (x + 65536 * p) % 2 ^ 16 = x by omega, show (y + 65536 * q) % 2 ^ 16 = y by omega, show (x + 65536 * p) / 2 ^ 16 = p by omega, show (y + 65536 * q) / 2 ^ 16 = q by omega]
def nest (a b c d : Nat) : Nat := a + 65536 * (b + 65536 * (c + 65536 * d))
theorem nest_and {a b c d a' b' c' d' : Nat} (ha : a < 65536) (hb : b < 65536) (hc : c < 65536) (ha' : a' < 65536) (hb' : b' < 65536) (hc' : c' < 65536) :
    nest a b c d &&& nest a' b' c' d' = nest (a &&& a') (b &&& b') (c &&& c') (d &&& d') := by
  unfold nest; rw [and_cons _ _ _ _ ha ha', and_cons _ _ _ _ hb hb', and_cons _ _ _ _ hc hc']
theorem nest_or {a b c d a' b' c' d' : Nat} (ha : a < 65536) (hb : b < 65536) (hc : c < 65536) (ha' : a' < 65536) (hb' : b' < 65536) (hc' : c' < 65536) :
    nest a b c d ||| nest a' b' c' d' = nest (a ||| a') (b ||| b') (c ||| c') (d ||| d') := by
  unfold nest; rw [or_cons _ _ _ _ ha ha', or_cons _ _ _ _ hb hb', or_cons _ _ _ _ hc hc']
theorem nest_lt {a b c d : Nat} (ha : a < 65536) (hb : b < 65536) (hc : c < 65536) (hd : d < 65536) : nest a b c d < 18446744073709551616 := by unfold nest; omega
theorem nest_low {a b c d : Nat} (ha : a < 65536) (hb : b < 65536) (hc : c < 65536) : nest a b c d &&& 71777214294589695 = nest (a % 256) (b % 256) (c % 256) (d % 256) := by
  have e : nest a b c d &&& nest 255 255 255 255 = nest (a &&& 255) (b &&& 255) (c &&& 255) (d &&& 255) := nest_and ha hb hc (by decide) (by decide) (by decide)
  rw [nat_mask8, nat_mask8, nat_mask8, nat_mask8] at e
  exact e
theorem nest_even {a b c d : Nat} (ha : a < 65536) (hb : b < 65536) (hc : c < 65536) : nest a b c d &&& 281470681808895 = nest a 0 c 0 := by
  have e : nest a b c d &&& nest 65535 0 65535 0 = nest (a &&& 65535) (b &&& 0) (c &&& 65535) (d &&& 0) := nest_and ha hb hc (by decide) (by decide) (by decide)
  rw [nat_mask16, nat_mask16, Nat.and_zero, Nat.and_zero, Nat.mod_eq_of_lt ha, Nat.mod_eq_of_lt hc] at e
  exact e
theorem nest_byte (a b c d : Nat) : nest a b c d / 256 = nest (a / 256 + b % 256 * 256) (b / 256 + c % 256 * 256) (c / 256 + d % 256 * 256) (d / 256) := by unfold nest; omega
theorem nest_part {a : Nat} (b c d : Nat) (ha : a < 65536) : nest a b c d / 65536 = nest b c d 0 := by unfold nest; omega
theorem nest_half {a b : Nat} (c d : Nat) (ha : a < 65536) (hb : b < 65536) : nest a b c d / 4294967296 = nest c d 0 0 := by unfold nest; omega
theorem lo8 (x : Nat) : x % 256 * 256 < 65536 := by omega
theorem hi8 (x y : Nat) (h : x < 65536) : x / 256 + y % 256 * 256 < 65536 := by omega
theorem by8 (x : Nat) : x % 256 < 65536 := by omega
theorem nest_times (a b c d : Nat) : nest a b c d * 256 = nest (a * 256) (b * 256) (c * 256) (d * 256) := by unfold nest; omega
theorem nest_up (a c : Nat) : nest a 0 c 0 * 65536 = nest 0 a 0 c := by unfold nest; omega
theorem nest_up2 (a b c d : Nat) (ha : a < 65536) (hb : b < 65536) : nest a b c d * 4294967296 % 18446744073709551616 = nest 0 0 a b := by unfold nest; omega
def turn2 (x : Nat) : Nat := x / 256 + x % 256 * 256
theorem turn2_lt (x : Nat) (h : x < 65536) : turn2 x < 65536 := by unfold turn2; omega
theorem or_turn2 (x y : Nat) (h : x < 65536) : (x / 256 + y * 256) % 256 ||| x % 256 * 256 = turn2 x := by
  rw [nat_or_low 8 _ _ (by omega) (by omega)]; unfold turn2; omega
theorem or_turn2' (x : Nat) (h : x < 65536) : (x / 256) % 256 ||| x % 256 * 256 = turn2 x := by
  rw [nat_or_low 8 _ _ (by omega) (by omega)]; unfold turn2; omega
section
variable {a b c d : Nat} (ha : a < 65536) (hb : b < 65536) (hc : c < 65536) (hd : d < 65536)
include ha hb hc hd
theorem step8 : bits .or .u64 (bits .and .u64 ((nest a b c d : Nat) / 256 : Int) 71777214294589695) (IntKind.u64.wrap (bits .and .u64 (nest a b c d : Nat) 71777214294589695 * 256)) = (nest (turn2 a) (turn2 b) (turn2 c) (turn2 d) : Nat) := by
  have hn := nest_lt ha hb hc hd
  have l0 := hi8 a b ha
  have l1 := hi8 b c hb
  have l2 := hi8 c d hc
  have k0 := lo8 a
  have k1 := lo8 b
  have k2 := lo8 c
  have k3 := lo8 d
  have e1 : bits .and .u64 ((nest a b c d : Nat) / 256 : Int) 71777214294589695 = ((nest a b c d / 256 &&& 71777214294589695 : Nat) : Int) := u64_and_nat (nest a b c d / 256) 71777214294589695 (by omega) (by decide)
  have e2 : bits .and .u64 (nest a b c d : Nat) 71777214294589695 = ((nest a b c d &&& 71777214294589695 : Nat) : Int) := u64_and_nat (nest a b c d) 71777214294589695 hn (by decide)
  have e3 : nest a b c d / 256 &&& 71777214294589695 = nest ((a / 256 + b % 256 * 256) % 256) ((b / 256 + c % 256 * 256) % 256) ((c / 256 + d % 256 * 256) % 256) (d / 256 % 256) := by
    rw [nest_byte, nest_low l0 l1 l2]
  have e4 : ((nest a b c d &&& 71777214294589695 : Nat) : Int) * 256 % 18446744073709551616 = (nest (a % 256 * 256) (b % 256 * 256) (c % 256 * 256) (d % 256 * 256) : Nat) := by
    rw [nest_low ha hb hc]
    have h1 := nest_times (a % 256) (b % 256) (c % 256) (d % 256)
    have h2 := nest_lt k0 k1 k2 k3
    clear l0 l1 l2 k0 k1 k2 k3 e1 e2 e3
    omega
  have m0 := by8 (a / 256 + b % 256 * 256)
  have m1 := by8 (b / 256 + c % 256 * 256)
  have m2 := by8 (c / 256 + d % 256 * 256)
  have m3 := by8 (d / 256)
  rw [e1, e2, e3, IntKind.wrap_u64, e4, u64_or_nat _ _ (nest_lt m0 m1 m2 m3) (nest_lt k0 k1 k2 k3), nest_or m0 m1 m2 k0 k1 k2, or_turn2 a _ ha, or_turn2 b _ hb, or_turn2 c _ hc, or_turn2' d hd]
theorem step16 : bits .or .u64 (bits .and .u64 ((nest a b c d : Nat) / 65536 : Int) 281470681808895) (IntKind.u64.wrap (bits .and .u64 (nest a b c d : Nat) 281470681808895 * 65536)) = (nest b a d c : Nat) := by
  have hn := nest_lt ha hb hc hd
  have z : 0 < 65536 := by decide
  have e1 : bits .and .u64 ((nest a b c d : Nat) / 65536 : Int) 281470681808895 = ((nest a b c d / 65536 &&& 281470681808895 : Nat) : Int) := u64_and_nat (nest a b c d / 65536) 281470681808895 (by omega) (by decide)
  have e2 : bits .and .u64 (nest a b c d : Nat) 281470681808895 = ((nest a b c d &&& 281470681808895 : Nat) : Int) := u64_and_nat (nest a b c d) 281470681808895 hn (by decide)
  have e3 : nest a b c d / 65536 &&& 281470681808895 = nest b 0 d 0 := by rw [nest_part b c d ha, nest_even hb hc hd]
  have e4 : ((nest a b c d &&& 281470681808895 : Nat) : Int) * 65536 % 18446744073709551616 = (nest 0 a 0 c : Nat) := by
    rw [nest_even ha hb hc]
    have h1 := nest_up a c
    have h2 := nest_lt z ha z hc
    omega
  rw [e1, e2, e3, IntKind.wrap_u64, e4, u64_or_nat _ _ (nest_lt hb z hd z) (nest_lt z ha z hc), nest_or hb z hd z ha z, Nat.or_zero, Nat.zero_or, Nat.or_zero, Nat.zero_or]
theorem step32 : bits .or .u64 ((nest a b c d : Nat) / 4294967296 : Int) (IntKind.u64.wrap ((nest a b c d : Nat) * 4294967296)) = (nest c d a b : Nat) := by
  have hn := nest_lt ha hb hc hd
  have z : 0 < 65536 := by decide
  have e1 : ((nest a b c d : Nat) / 4294967296 : Int) = (nest c d 0 0 : Nat) := by
    have := nest_half c d ha hb
    omega
  have e2 : ((nest a b c d : Nat) : Int) * 4294967296 % 18446744073709551616 = (nest 0 0 a b : Nat) := by
    have := nest_up2 a b c d ha hb
    omega
  rw [IntKind.wrap_u64, e1, e2, u64_or_nat _ _ (nest_lt hc hd z z) (nest_lt z z ha hb), nest_or hc hd z z z ha, Nat.or_zero, Nat.or_zero, Nat.zero_or, Nat.zero_or]
end
def swap16 (a : Int) : Int := a % 256 * 256 + a / 256 % 256
def swap32 (a : Int) : Int := a % 256 * 16777216 + a / 256 % 256 * 65536 + a / 65536 % 256 * 256 + a / 16777216 % 256
def swap64 (a : Int) : Int := swap32 (a % 4294967296) * 4294967296 + swap32 (a / 4294967296)
def swapW (w a : Int) : Int := if w = 16 then swap16 a else if w = 32 then swap32 a else swap64 a
theorem nest_of (n : Int) (h : 0 ≤ n) (h' : n ≤ 18446744073709551615) : ∃ a b c d : Nat, n = (nest a b c d : Nat) ∧ a < 65536 ∧ b < 65536 ∧ c < 65536 ∧ d < 65536 := by
  refine ⟨(n % 65536).toNat, (n / 65536 % 65536).toNat, (n / 4294967296 % 65536).toNat, (n / 281474976710656).toNat, ?_, by omega, by omega, by omega, by omega⟩
  unfold nest
  omega
theorem swap32_two (a b : Nat) (ha : a < 65536) (hb : b < 65536) : swap32 ((a : Int) + 65536 * b) = (turn2 a : Int) * 65536 + turn2 b := by
  have ea : a = a % 256 + 256 * (a / 256) := by omega
  have eb : b = b % 256 + 256 * (b / 256) := by omega
  have h1 : ((a : Int) + 65536 * b) % 256 = ((a % 256 : Nat) : Int) := by omega
  have h2 : ((a : Int) + 65536 * b) / 256 % 256 = ((a / 256 : Nat) : Int) := by omega
  have h3 : ((a : Int) + 65536 * b) / 65536 % 256 = ((b % 256 : Nat) : Int) := by omega
  have h4 : ((a : Int) + 65536 * b) / 16777216 % 256 = ((b / 256 : Nat) : Int) := by omega
  unfold swap32 turn2
  rw [h1, h2, h3, h4]
  omega
theorem turned (a b c d : Nat) (ha : a < 65536) (hb : b < 65536) (hc : c < 65536) (hd : d < 65536) : ((nest (turn2 d) (turn2 c) (turn2 b) (turn2 a) : Nat) : Int) = swap64 (nest a b c d : Nat) := by
  have h1 : ((nest a b c d : Nat) : Int) % 4294967296 = (a : Int) + 65536 * b := by unfold nest; omega
  have h2 : ((nest a b c d : Nat) : Int) / 4294967296 = (c : Int) + 65536 * d := by unfold nest; omega
  unfold swap64
  rw [h1, h2, swap32_two a b ha hb, swap32_two c d hc hd]
  unfold nest
  omega
theorem swap32_range (x : Int) : 0 ≤ swap32 x ∧ swap32 x < 4294967296 := by unfold swap32; omega
theorem swap64_range (a : Int) : 0 ≤ swap64 a ∧ swap64 a ≤ 18446744073709551615 := by
  have r1 := swap32_range (a % 4294967296)
  have r2 := swap32_range (a / 4294967296)
  unfold swap64; omega
theorem bytes4 (x : Int) : ∃ b0 b1 b2 b3 : Int, x % 4294967296 = b0 + 256 * b1 + 65536 * b2 + 16777216 * b3 ∧ (0 ≤ b0 ∧ b0 < 256) ∧ (0 ≤ b1 ∧ b1 < 256) ∧ (0 ≤ b2 ∧ b2 < 256) ∧ (0 ≤ b3 ∧ b3 < 256) :=
  ⟨x % 256, x / 256 % 256, x / 65536 % 256, x / 16777216 % 256, by omega, by omega, by omega, by omega, by omega⟩
theorem swap32_low (x : Int) : swap32 (x % 4294967296) = swap32 x := by
  have e0 : x % 4294967296 % 256 = x % 256 := by omega
  have e1 : x % 4294967296 / 256 % 256 = x / 256 % 256 := by omega
  have e2 : x % 4294967296 / 65536 % 256 = x / 65536 % 256 := by omega
  have e3 : x % 4294967296 / 16777216 % 256 = x / 16777216 % 256 := by omega
  unfold swap32; rw [e0, e1, e2, e3]
theorem swap32_half (x : Int) : swap32 x / 65536 = swap16 x := by
  have h0 : 0 ≤ x / 65536 % 256 ∧ x / 65536 % 256 < 256 := by omega
  have h1 : 0 ≤ x / 16777216 % 256 ∧ x / 16777216 % 256 < 256 := by omega
  unfold swap32 swap16
  generalize x / 65536 % 256 = p at *
  generalize x / 16777216 % 256 = q at *
  generalize x % 256 = r
  generalize x / 256 % 256 = s
  omega
theorem swap_down (a : Int) : swap64 a / 281474976710656 = swap16 a ∧ swap64 a / 4294967296 = swap32 a := by
  have r1 := swap32_range (a / 4294967296)
  have h1 := swap32_half a
  rw [← swap32_low a] at *
  unfold swap64
  generalize swap32 (a % 4294967296) = p at *
  generalize swap32 (a / 4294967296) = q at *
  omega
theorem swapW_range (w a : Int) : 0 ≤ swapW w a ∧ swapW w a ≤ 18446744073709551615 := by
  have h := swap64_range a
  have h2 := swap32_range a
  unfold swapW
  split
  · unfold swap16; omega
  · split
    · omega
    · exact h
end Go.Proofs.YtlbhffdpklbhfaaGreat
namespace Go.Proofs.YtlbhffdpklbhfaaGreat
open Go.RowKit
set_option linter.unusedVariables false
theorem ret_int {k : IntKind} {a b : Int} (h : a = b) : Ending.returned (.int k a) = .returned (.int k b) := by rw [h]
theorem ret_two {k l : IntKind} {a b c d : Int} (h : a = b) (h' : c = d) : Ending.returned (.tuple #[.int k a, .int l c]) = .returned (.tuple #[.int k b, .int l d]) := by rw [h, h']
def Parted (q r : Int) (w : World) (e : Ending) (w' : World) : Prop := e = .returned (.tuple #[.int .u64 q, .int .u64 r]) ∧ ∃ n, w' = w.drewN n
def NoOp (op : Int) : Prop := (op ≠ 0 ∧ op ≠ 16 ∧ op ≠ 32 ∧ op ≠ 64 ∧ op ≠ 80 ∧ op ≠ 160 ∧ op ≠ 96) ∧ (op ≠ 112 ∧ op ≠ 192 ∧ op ≠ 128 ∧ op ≠ 48 ∧ op ≠ 144 ∧ op ≠ 176)
theorem noOp_fits {op off : Int} {wide : Bool} (h : NoOp op) : aluFits op wide off = false := by
  obtain ⟨⟨a1, a2, a3, a4, a5, a6, a7⟩, a8, a9, a10, a11, a12, a13⟩ := h
  unfold aluFits
  rw [if_neg (by omega), if_neg (by omega), if_neg (by omega)]
theorem op_cases (op : Int) : (op = 48 ∨ op = 144) ∨ op = 176 ∨ (op = 0 ∨ op = 16 ∨ op = 32 ∨ op = 64 ∨ op = 80 ∨ op = 160 ∨ op = 96 ∨ op = 112 ∨ op = 192 ∨ op = 128) ∨ NoOp op := by
  unfold NoOp
  by_cases h1 : op = 48 ∨ op = 144
  · exact .inl h1
  · by_cases h2 : op = 176
    · exact .inr (.inl h2)
    · by_cases h3 : op = 0 ∨ op = 16 ∨ op = 32 ∨ op = 64 ∨ op = 80 ∨ op = 160 ∨ op = 96 ∨ op = 112 ∨ op = 192 ∨ op = 128
      · exact .inr (.inr (.inl h3))
      · refine .inr (.inr (.inr ?_))
        simp only [not_or] at h1 h3
        simp [h1, h2, h3]
def Did (v k : Int) (w : World) (e : Ending) (w' : World) : Prop := e = .returned (.tuple #[.int .u64 v, .int .i64 k]) ∧ ∃ n, w' = w.drewN n
theorem cut_any (n k : Int) (w : World) (h : 0 ≤ n) (h1 : 1 ≤ k) (h2 : k ≤ 64) :
    Calls Tryz.prog 165 #[.int .u64 n, .int .i64 k] w fun e w' => e = .returned (.int .u64 (n % 2 ^ k.toNat)) ∧ w = w' := by
  go_enter Tryz.func165, Tryz.ntmps165
  go_wp2
  go_ret
  exact ⟨ret_int (by rw [IntKind.wrap_u64, up_down n k (by omega) h2]), rfl⟩
theorem cut_32 (n : Int) (w : World) (h : 0 ≤ n) :
    Calls Tryz.prog 165 #[.int .u64 n, .int .i64 32] w fun e w' => e = .returned (.int .u64 (n % 4294967296)) ∧ w = w' := cut_any n 32 w h (by decide) (by decide)
theorem cut_64 (n : Int) (w : World) (h : 0 ≤ n) :
    Calls Tryz.prog 165 #[.int .u64 n, .int .i64 64] w fun e w' => e = .returned (.int .u64 (n % 18446744073709551616)) ∧ w = w' := cut_any n 64 w h (by decide) (by decide)
theorem sign_any (n k : Int) (w : World) (h : 0 ≤ n) (h' : n ≤ 18446744073709551615) :
    Calls Tryz.prog 154 #[.int .u64 n, .int .i64 k] w fun e w' => e = .returned (.int .u64 (signW n k)) ∧ w = w' := by
  by_cases h1 : 1 ≤ k
  · by_cases h2 : k ≤ 64
    · go_enter Tryz.func154, Tryz.ntmps154
      go_wp2
      go_ret
      exact ⟨ret_int (by unfold signW; rw [if_pos ⟨h1, h2⟩, IntKind.wrap_u64, IntKind.wrap_u64, up_down_signed n k h1 h2]), rfl⟩
    · go_enter Tryz.func154, Tryz.ntmps154
      go_wp2
      go_ret
      exact ⟨ret_int (by unfold signW; rw [if_neg (by omega)]), rfl⟩
  · go_enter Tryz.func154, Tryz.ntmps154
    go_wp2
    go_ret
    exact ⟨ret_int (by unfold signW; rw [if_neg (by omega)]), rfl⟩
theorem div_u64 (a b : Int) (w : World) (h : 0 ≤ a) (h' : a ≤ 18446744073709551615) (h1 : 0 ≤ b) (h1' : b ≤ 18446744073709551615) :
    Calls Tryz.prog 200 #[.int .u64 a, .int .u64 b] w (Parted (a / b % 18446744073709551616) (a % b % 18446744073709551616) w) := by
  by_cases hb : b = 0
  · subst hb
    go_enter Tryz.func200, Tryz.ntmps200
    go_wp2
    go_ret2
    exact ⟨ret_two (by simp) (by simp; omega), 0, rfl⟩
  · have h2 : 1 ≤ b := by omega
    have hq := Int.ediv_le_self b h
    have hq0 := Int.ediv_nonneg h h1
    have hr := Int.emod_nonneg a hb
    have hr' := Int.emod_lt_of_pos a (b := b) (by omega)
    have e1 := Lib.hid (Int.emod_eq_of_lt hq0 (b := 18446744073709551616) (by omega)).symm
    have e2 := Lib.hid (Int.emod_eq_of_lt hr (b := 18446744073709551616) (by omega)).symm
    clear hq hq0 hr hr' hb
    go_enter Tryz.func200, Tryz.ntmps200
    go_wp2
    go_quiet (fail)
    go_wp2
    go_ret2
    exact ⟨ret_two e1.out e2.out, _, rfl⟩
theorem div_u32 (a b : Int) (w : World) (h : 0 ≤ a) (h' : a ≤ 4294967295) (h1 : 0 ≤ b) (h1' : b ≤ 4294967295) :
    Calls Tryz.prog 202 #[.int .u64 a, .int .u64 b] w (Parted (a / b % 18446744073709551616) (a % b % 18446744073709551616) w) := by
  have ha : a % 4294967296 = a := by omega
  have hbb : b % 4294967296 = b := by omega
  by_cases hb : b = 0
  · subst hb
    go_enter Tryz.func202, Tryz.ntmps202
    go_wp2
    go_ret2
    exact ⟨ret_two (by simp) (by simp; omega), 0, rfl⟩
  · have h2 : 1 ≤ b := by omega
    have hq := Int.ediv_le_self b h
    have hq0 := Int.ediv_nonneg h h1
    have hr := Int.emod_nonneg a hb
    have hr' := Int.emod_lt_of_pos a (b := b) (by omega)
    have e1 := Lib.hid (Int.emod_eq_of_lt hq0 (b := 18446744073709551616) (by omega)).symm
    have e2 := Lib.hid (Int.emod_eq_of_lt hr (b := 18446744073709551616) (by omega)).symm
    clear hq hq0 hr hr' hb
    go_enter Tryz.func202, Tryz.ntmps202
    go_wp2
    go_quiet (fail)
    go_wp2
    go_ret2
    exact ⟨ret_two (by rw [IntKind.wrap_u64]) (by rw [IntKind.wrap_u64]), _, rfl⟩
theorem div_i64 (a b : Int) (w : World) :
    Calls Tryz.prog 199 #[.int .u64 a, .int .u64 b] w (Parted ((wrap64 a).tdiv (wrap64 b) % 18446744073709551616) ((wrap64 a).tmod (wrap64 b) % 18446744073709551616) w) := by
  generalize e1 : wrap64 a = x
  generalize e2 : wrap64 b = y
  by_cases hy : y = 0
  · subst hy
    go_enter Tryz.func199, Tryz.ntmps199
    go_wp2
    go_ret2
    exact ⟨ret_two (by simp) (by rw [Int.tmod_zero, IntKind.wrap_u64]), 0, rfl⟩
  · have h4 : (y == 0) = false := by simpa using hy
    go_enter Tryz.func199, Tryz.ntmps199
    go_wp2
    go_quiet (fail)
    go_wp2
    go_ret2
    exact ⟨ret_two (by rw [IntKind.wrap_u64]; unfold wrap64; omega) (by rw [IntKind.wrap_u64]), _, rfl⟩
theorem div_i32 (a b : Int) (w : World) :
    Calls Tryz.prog 201 #[.int .u64 a, .int .u64 b] w
      (Parted (wrap32 ((wrap32 a).tdiv (wrap32 b)) % 18446744073709551616) ((wrap32 a).tmod (wrap32 b) % 18446744073709551616) w) := by
  have e1' : IntKind.i32.wrap a = wrap32 a := by simp [IntKind.wrap, IntKind.bits, IntKind.signed, wrap32]; split <;> omega
  have e2' : IntKind.i32.wrap b = wrap32 b := by simp [IntKind.wrap, IntKind.bits, IntKind.signed, wrap32]; split <;> omega
  generalize e1 : wrap32 a = x
  generalize e2 : wrap32 b = y
  rw [e1] at e1'
  rw [e2] at e2'
  clear e1 e2
  by_cases hy : y = 0
  · subst hy
    go_enter Tryz.func201, Tryz.ntmps201
    go_wp2
    go_ret2
    exact ⟨ret_two (by simp [wrap32]) (by rw [Int.tmod_zero, IntKind.wrap_u64]), 0, rfl⟩
  · have h4 : (y == 0) = false := by simpa using hy
    go_enter Tryz.func201, Tryz.ntmps201
    go_wp2
    go_quiet (fail)
    go_wp2
    go_ret2
    exact ⟨ret_two (by rw [IntKind.wrap_u64]) (by rw [IntKind.wrap_u64]), _, rfl⟩
theorem divided_0_64 (x y : Int) (hx : 0 ≤ x) (hy : 0 ≤ y) (hx' : x ≤ 18446744073709551615) (hy' : y ≤ 18446744073709551615) (w : World) :
    Calls Tryz.prog 186 #[.int .i64 64, .bool false, .int .u64 x, .int .u64 y] w (Parted (aluZ true 48 0 x y % 18446744073709551616) (aluZ true 144 0 x y % 18446744073709551616) w) := by
  go_enter Tryz.func186, Tryz.ntmps186
  go_wp2_with (go_at_call 200; refine (div_u64 _ _ _ (by omega) (by omega) (by omega) (by omega)).mono ?_; rintro e w' ⟨rfl, n, rfl⟩)
  go_ret2
  exact ⟨rfl, n, rfl⟩
theorem divided_1_64 (x y : Int) (hx : 0 ≤ x) (hy : 0 ≤ y) (hx' : x ≤ 18446744073709551615) (hy' : y ≤ 18446744073709551615) (w : World) :
    Calls Tryz.prog 186 #[.int .i64 64, .bool true, .int .u64 x, .int .u64 y] w (Parted (aluZ true 48 1 x y % 18446744073709551616) (aluZ true 144 1 x y % 18446744073709551616) w) := by
  go_enter Tryz.func186, Tryz.ntmps186
  go_wp2_with (go_at_call 199; refine (div_i64 _ _ _).mono ?_; rintro e w' ⟨rfl, n, rfl⟩)
  go_ret2
  exact ⟨ret_two (by show _ = wrap64 ((wrap64 x).tdiv (wrap64 y)) % 18446744073709551616; generalize (wrap64 x).tdiv (wrap64 y) = q; unfold wrap64; omega) rfl, n, rfl⟩
theorem divided_0_32 (x y : Int) (hx : 0 ≤ x) (hy : 0 ≤ y) (hx' : x ≤ 4294967295) (hy' : y ≤ 4294967295) (w : World) :
    Calls Tryz.prog 186 #[.int .i64 32, .bool false, .int .u64 x, .int .u64 y] w (Parted (aluZ false 48 0 x y % 18446744073709551616) (aluZ false 144 0 x y % 18446744073709551616) w) := by
  go_enter Tryz.func186, Tryz.ntmps186
  go_wp2_with (go_at_call 202; refine (div_u32 _ _ _ (by omega) (by omega) (by omega) (by omega)).mono ?_; rintro e w' ⟨rfl, n, rfl⟩)
  go_ret2
  exact ⟨rfl, n, rfl⟩
theorem divided_1_32 (x y : Int) (hx : 0 ≤ x) (hy : 0 ≤ y) (hx' : x ≤ 4294967295) (hy' : y ≤ 4294967295) (w : World) :
    Calls Tryz.prog 186 #[.int .i64 32, .bool true, .int .u64 x, .int .u64 y] w (Parted (aluZ false 48 1 x y % 18446744073709551616) (aluZ false 144 1 x y % 18446744073709551616) w) := by
  go_enter Tryz.func186, Tryz.ntmps186
  go_wp2_with (go_at_call 201; refine (div_i32 _ _ _).mono ?_; rintro e w' ⟨rfl, n, rfl⟩)
  go_ret2
  exact ⟨rfl, n, rfl⟩
end Go.Proofs.YtlbhffdpklbhfaaGreat
