/-
  Lanes as signed numbers of 64 bits: how the model's arithmetic on int looks there. No program is named.
-/
import Derived.Test.YtljdconhplgipaaGreatDoorBits
namespace Go.Proofs.YtljdconhplgipaaGreatDoor
open Go.RowKit

/-- A lane, as the signed number that a slot holds. -/
def I (x : BitVec 64) : Int := x.toInt
theorem I_lo (x : BitVec 64) : -9223372036854775808 ≤ I x := by have := BitVec.le_toInt x; unfold I; simpa using this
theorem I_hi (x : BitVec 64) : I x ≤ 9223372036854775807 := by have := BitVec.toInt_lt (x := x); unfold I; simp at this; omega
theorem ofInt_I (x : BitVec 64) : BitVec.ofInt 64 (I x) = x := by unfold I; exact BitVec.ofInt_toInt
theorem wrap_eq_ofInt (n : Int) : IntKind.i64.wrap n = I (BitVec.ofInt 64 n) := by
  rw [IntKind.wrap_i64]; unfold I
  rw [BitVec.toInt_ofInt, Int.bmod_def, show ((2 ^ 64 : Nat) : Int) = 18446744073709551616 from rfl]
  split <;> omega
theorem wrap_toNat_I (x : BitVec 64) : IntKind.i64.wrap (x.toNat : Int) = I x := by
  rw [wrap_eq_ofInt, BitVec.ofInt_natCast]; simp
theorem bits_xor_I (x y : BitVec 64) : bits .xor .i64 (I x) (I y) = I (x ^^^ y) := by
  show IntKind.i64.wrap ((BitVec.ofInt 64 (I x) ^^^ BitVec.ofInt 64 (I y)).toNat : Int) = _
  rw [ofInt_I, ofInt_I, wrap_toNat_I]
theorem bits_or_I (x y : BitVec 64) : bits .or .i64 (I x) (I y) = I (x ||| y) := by
  show IntKind.i64.wrap ((BitVec.ofInt 64 (I x) ||| BitVec.ofInt 64 (I y)).toNat : Int) = _
  rw [ofInt_I, ofInt_I, wrap_toNat_I]
theorem bits_and_I (x y : BitVec 64) : bits .and .i64 (I x) (I y) = I (x &&& y) := by
  show IntKind.i64.wrap ((BitVec.ofInt 64 (I x) &&& BitVec.ofInt 64 (I y)).toNat : Int) = _
  rw [ofInt_I, ofInt_I, wrap_toNat_I]
theorem wrap_add_I (x y : BitVec 64) : IntKind.i64.wrap (I x + I y) = I (x + y) := by
  rw [wrap_eq_ofInt, BitVec.ofInt_add, ofInt_I, ofInt_I]
theorem wrap_mul_I (x y : BitVec 64) : IntKind.i64.wrap (I x * I y) = I (x * y) := by
  rw [wrap_eq_ofInt, BitVec.ofInt_mul, ofInt_I, ofInt_I]
theorem wrap_sub_I (x y : BitVec 64) : IntKind.i64.wrap (I x - I y) = I (x - y) := by
  rw [wrap_eq_ofInt, Int.sub_eq_add_neg, BitVec.ofInt_add, BitVec.ofInt_neg, ofInt_I, ofInt_I, BitVec.sub_eq_add_neg]
theorem not_I (x : BitVec 64) : -1 - I x = I (~~~x) := by
  unfold I; rw [BitVec.toInt_not]
  have h1 := BitVec.le_toInt x; have h2 := BitVec.toInt_lt (x := x)
  simp at h1 h2
  have hb : x.toInt = if 2 * x.toNat < 2 ^ 64 then (x.toNat : Int) else (x.toNat : Int) - 2 ^ 64 := BitVec.toInt_eq_toNat_cond x
  rw [Int.bmod_def]
  have := x.isLt
  split at hb <;> split <;> simp at * <;> omega
theorem I_zero : I 0 = 0 := by decide
theorem I_small (n : Nat) (h : n < 9223372036854775808) : I (BitVec.ofNat 64 n) = (n : Int) := by
  have := wrap_eq_ofInt (n : Int)
  rw [BitVec.ofInt_natCast] at this
  rw [← this, IntKind.wrap_i64]; omega
theorem shr_I (x : BitVec 64) (k : Nat) : I x / 2 ^ k = I (x.sshiftRight k) := by
  unfold I
  rw [BitVec.toInt_sshiftRight, Int.shiftRight_eq_div_pow]
  simp
end Go.Proofs.YtljdconhplgipaaGreatDoor
