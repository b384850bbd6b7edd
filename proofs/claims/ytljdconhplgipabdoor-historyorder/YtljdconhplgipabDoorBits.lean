/-
  Lanes as words of 64 bits: how the model's arithmetic on uint64 looks there. No program is named.
-/
import Derived.WalkKit
namespace Go.Proofs.YtljdconhplgipabDoor
open Go.RowKit

/-- A lane, as the number that a slot holds. -/
def U (x : BitVec 64) : Int := (x.toNat : Int)
theorem U_nonneg (x : BitVec 64) : 0 ≤ U x := by unfold U; omega
theorem U_lt (x : BitVec 64) : U x < 18446744073709551616 := by unfold U; have := x.isLt; omega
theorem ofInt_U (x : BitVec 64) : BitVec.ofInt 64 (U x) = x := by
  unfold U; rw [BitVec.ofInt_natCast]; simp
theorem wrap_toNat (x : BitVec 64) : IntKind.u64.wrap (x.toNat : Int) = U x := by
  rw [IntKind.wrap_u64]; unfold U; have := x.isLt; omega
theorem bits_xor_U (x y : BitVec 64) : bits .xor .u64 (U x) (U y) = U (x ^^^ y) := by
  show IntKind.u64.wrap ((BitVec.ofInt 64 (U x) ^^^ BitVec.ofInt 64 (U y)).toNat : Int) = _
  rw [ofInt_U, ofInt_U, wrap_toNat]
theorem bits_or_U (x y : BitVec 64) : bits .or .u64 (U x) (U y) = U (x ||| y) := by
  show IntKind.u64.wrap ((BitVec.ofInt 64 (U x) ||| BitVec.ofInt 64 (U y)).toNat : Int) = _
  rw [ofInt_U, ofInt_U, wrap_toNat]
theorem bits_andNot_U (x y : BitVec 64) : bits .andNot .u64 (U x) (U y) = U (x &&& ~~~y) := by
  show IntKind.u64.wrap ((BitVec.ofInt 64 (U x) &&& ~~~ BitVec.ofInt 64 (U y)).toNat : Int) = _
  rw [ofInt_U, ofInt_U, wrap_toNat]
theorem wrap_shl_U (x : BitVec 64) (k : Nat) : IntKind.u64.wrap (U x * 2 ^ k) = U (x <<< k) := by
  rw [IntKind.wrap_u64]; unfold U
  rw [BitVec.toNat_shiftLeft, Nat.shiftLeft_eq]
  have e : ((x.toNat : Int) * 2 ^ k) = ((x.toNat * 2 ^ k : Nat) : Int) := by simp
  rw [e]; omega
theorem div_shr_U (x : BitVec 64) (k : Nat) : U x / 2 ^ k = U (x >>> k) := by
  unfold U
  rw [BitVec.toNat_ushiftRight, Nat.shiftRight_eq_div_pow]
  simp
theorem and63 (k : Int) (h0 : 0 ≤ k) (h : k < 64) : bits .and .u64 k 63 = k := by
  obtain ⟨n, rfl⟩ := Int.eq_ofNat_of_zero_le h0
  show IntKind.u64.wrap ((BitVec.ofInt 64 (n : Int) &&& BitVec.ofInt 64 63).toNat : Int) = _
  rw [BitVec.ofInt_natCast, BitVec.toNat_and]
  have h1 : (BitVec.ofNat 64 n).toNat = n := by rw [BitVec.toNat_ofNat]; omega
  have h2 : (BitVec.ofInt 64 63).toNat = 2 ^ 6 - 1 := by decide
  rw [h1, h2, Nat.and_two_pow_sub_one_eq_mod, IntKind.wrap_u64]
  omega

/-- Turned to the left. -/
def rotl (x : BitVec 64) (k : Nat) : BitVec 64 := (x <<< k) ||| (x >>> (64 - k))
theorem shift_shl_U (x : BitVec 64) (yk : IntKind) (k : Int) (h0 : 0 ≤ k) (h : k < 64) : Op.shift .shl .u64 (U x) yk k = pure (.int .u64 (U (x <<< k.toNat))) := by
  rw [shift_shl_any _ _ _ _ h0]
  have e : min k.toNat IntKind.u64.bits = k.toNat := by simp [IntKind.bits]; omega
  rw [e, wrap_shl_U]
theorem shift_shr_U (x : BitVec 64) (yk : IntKind) (k : Int) (h0 : 0 ≤ k) (h : k ≤ 64) : Op.shift .shr .u64 (U x) yk k = pure (.int .u64 (U (x >>> k.toNat))) := by
  rw [shift_shr_any _ _ _ _ h0]
  have e : min k.toNat IntKind.u64.bits = k.toNat := by simp [IntKind.bits]; omega
  rw [e, div_shr_U]
end Go.Proofs.YtljdconhplgipabDoor
