/-
  Plain numbers: bytes of an instruction, put together and taken apart. No program is named here.
-/
import Derived.WalkKit
import Derived.Laws.BitsAllLaws
namespace Go.Proofs.Ytplndcjmbgkcjaa
open Go Go.RowKit

/-- 'a | b' of bits that do not meet is the sum: the higher part is a multiple of 2^i, the lower one below 2^i. -/
theorem nat_or_low (i x y : Nat) (hx : x < 2 ^ i) (hy : y % 2 ^ i = 0) : x ||| y = x + y := by
  rw [Nat.or_comm, nat_join i y x hy hx]; omega

theorem or_u8 (i : Nat) (a b : Int) (h1 : 0 ≤ a) (h2 : a < 2 ^ i) (h3 : 0 ≤ b) (h4 : b < 256) (hi : (2 : Int) ^ i ≤ 256) (h5 : b.toNat % 2 ^ i = 0) : bits .or .u8 a b = a + b := by
  have ha : a.toNat < 2 ^ i := by
    have : (a.toNat : Int) < ((2 ^ i : Nat) : Int) := by push_cast; omega
    omega
  rw [u8_or a b h1 (by omega) h3 h4, nat_or_low i _ _ ha h5]; omega
theorem or_u16 (i : Nat) (a b : Int) (h1 : 0 ≤ a) (h2 : a < 2 ^ i) (h3 : 0 ≤ b) (h4 : b < 65536) (hi : (2 : Int) ^ i ≤ 65536) (h5 : b.toNat % 2 ^ i = 0) : bits .or .u16 a b = a + b := by
  have ha : a.toNat < 2 ^ i := by
    have : (a.toNat : Int) < ((2 ^ i : Nat) : Int) := by push_cast; omega
    omega
  rw [u16_or a b h1 (by omega) h3 h4, nat_or_low i _ _ ha h5]; omega
theorem or_u32 (i : Nat) (a b : Int) (h1 : 0 ≤ a) (h2 : a < 2 ^ i) (h3 : 0 ≤ b) (h4 : b < 4294967296) (hi : (2 : Int) ^ i ≤ 4294967296) (h5 : b.toNat % 2 ^ i = 0) : bits .or .u32 a b = a + b := by
  have ha : a.toNat < 2 ^ i := by
    have : (a.toNat : Int) < ((2 ^ i : Nat) : Int) := by push_cast; omega
    omega
  rw [u32_or a b h1 (by omega) h3 h4, nat_or_low i _ _ ha h5]; omega

theorem regs_or (d s : Int) (h1 : 0 ≤ d) (h2 : d ≤ 15) (h3 : 0 ≤ s) (h4 : s ≤ 15) : bits .or .u8 d (s * 16) = d + 16 * s := by
  rw [or_u8 4 d (s * 16) h1 (by omega) (by omega) (by omega) (by decide) (by omega)]; omega
theorem two_or (a b : Int) (h1 : 0 ≤ a ∧ a ≤ 255) (h2 : 0 ≤ b ∧ b ≤ 255) : bits .or .u16 a (b * 256) = a + 256 * b := by
  rw [or_u16 8 a (b * 256) h1.1 (by omega) (by omega) (by omega) (by decide) (by omega)]; omega
theorem four_or (a b c d : Int) (h1 : 0 ≤ a ∧ a ≤ 255) (h2 : 0 ≤ b ∧ b ≤ 255) (h3 : 0 ≤ c ∧ c ≤ 255) (h4 : 0 ≤ d ∧ d ≤ 255) :
    bits .or .u32 (bits .or .u32 (bits .or .u32 a (b * 256)) (c * 65536)) (d * 16777216) = a + 256 * b + 65536 * c + 16777216 * d := by
  rw [or_u32 8 a (b * 256) h1.1 (by omega) (by omega) (by omega) (by decide) (by omega),
    or_u32 16 (a + b * 256) (c * 65536) (by omega) (by omega) (by omega) (by omega) (by decide) (by omega),
    or_u32 24 (a + b * 256 + c * 65536) (d * 16777216) (by omega) (by omega) (by omega) (by omega) (by decide) (by omega)]; omega

/-! Taken from what was put, and put from what was taken: each part by its bytes. -/
theorem i16_bytes (off : Int) (h1 : -32768 ≤ off) (h2 : off ≤ 32767) : IntKind.i16.wrap (off % 256 + 256 * (off / 256 % 256)) = off := by
  have : IntKind.i16.wrap (off % 256 + 256 * (off / 256 % 256)) = (off % 256 + 256 * (off / 256 % 256) + 32768) % 65536 - 32768 := by
    simp [IntKind.wrap, IntKind.bits, IntKind.signed]; split <;> omega
  rw [this]; omega
theorem i32_bytes (imm : Int) (h1 : -2147483648 ≤ imm) (h2 : imm ≤ 2147483647) :
    wrap32 (imm % 256 + 256 * (imm / 256 % 256) + 65536 * (imm / 65536 % 256) + 16777216 * (imm / 16777216 % 256)) = imm := by
  unfold wrap32; omega
theorem i16_low (x : Int) : IntKind.i16.wrap x % 256 = x % 256 := by
  have : IntKind.i16.wrap x = (x + 32768) % 65536 - 32768 := by
    simp [IntKind.wrap, IntKind.bits, IntKind.signed]; split <;> omega
  rw [this]; omega
theorem i16_high (x : Int) : IntKind.i16.wrap x / 256 % 256 = x / 256 % 256 := by
  have : IntKind.i16.wrap x = (x + 32768) % 65536 - 32768 := by
    simp [IntKind.wrap, IntKind.bits, IntKind.signed]; split <;> omega
  rw [this]; omega
theorem i32_b0 (x : Int) : wrap32 x % 256 = x % 256 := by unfold wrap32; omega
theorem i32_b1 (x : Int) : wrap32 x / 256 % 256 = x / 256 % 256 := by unfold wrap32; omega
theorem i32_b2 (x : Int) : wrap32 x / 65536 % 256 = x / 65536 % 256 := by unfold wrap32; omega
theorem i32_b3 (x : Int) : wrap32 x / 16777216 % 256 = x / 16777216 % 256 := by unfold wrap32; omega

end Go.Proofs.Ytplndcjmbgkcjaa
