/-
  path.group, as it landed: the nine bits of a byte, as a number.
-/
import Derived.Test.YtkkcjnhfbblgiaaDoorBase
import Derived.Test.YtkkcjnhfbblgiaaDoorKeys
namespace Go.Proofs.YtkkcjnhfbblgiaaDoor
open Go.RowKit
/-- The nine bits at a place. -/
def groupN (k : List UInt8) (p : Nat) : Nat := if p < k.length then 256 ||| (k.getD p 0).toNat else 0
theorem or_256 : ∀ c : Fin 256, 256 ||| c.val = 256 + c.val := by decide +kernel
theorem groupN_lt (k : List UInt8) (p : Nat) : groupN k p < 512 := by
  unfold groupN
  by_cases h : p < k.length
  · rw [if_pos h]
    have := or_256 ⟨(k.getD p 0).toNat, (k.getD p 0).toNat_lt⟩
    have := (k.getD p 0).toNat_lt
    simp only at *
    omega
  · rw [if_neg h]; decide
theorem kbit_group (k : List UInt8) (i : Nat) : kbit k i = (groupN k (i / 9)).testBit (8 - i % 9) := by
  unfold kbit groupN
  by_cases h : i / 9 < k.length
  · rw [if_pos h, if_pos h]
    by_cases h0 : i % 9 = 0
    · rw [if_pos h0, h0, Nat.testBit_or]
      simp
      left; decide
    · rw [if_neg h0, Nat.testBit_or, show Nat.testBit 256 (8 - i % 9) = false from ?_, Bool.false_or]
      have hj : 8 - i % 9 < 8 := by omega
      generalize 8 - i % 9 = j at hj
      revert hj; revert j; decide
  · rw [if_neg h, if_neg h]; simp
theorem wrap_u16 (x : Nat) (h : x < 65536) : IntKind.u16.wrap (x : Int) = (x : Int) := by
  rw [IntKind.wrap_u16]; omega
theorem or_u16 (x y : Nat) (hx : x < 65536) (hy : y < 65536) : bits .or .u16 (x : Int) (y : Int) = ((x ||| y : Nat) : Int) := by
  show IntKind.u16.wrap ((BitVec.ofInt 16 (x : Int) ||| BitVec.ofInt 16 (y : Int)).toNat : Int) = _
  rw [BitVec.ofInt_natCast, BitVec.ofInt_natCast, BitVec.toNat_or, BitVec.toNat_ofNat, BitVec.toNat_ofNat, Nat.mod_eq_of_lt (by omega), Nat.mod_eq_of_lt (by omega), wrap_u16]
  exact Nat.or_lt_two_pow (n := 16) hx hy
theorem xor_u16 (x y : Nat) (hx : x < 65536) (hy : y < 65536) : bits .xor .u16 (x : Int) (y : Int) = ((x ^^^ y : Nat) : Int) := by
  show IntKind.u16.wrap ((BitVec.ofInt 16 (x : Int) ^^^ BitVec.ofInt 16 (y : Int)).toNat : Int) = _
  rw [BitVec.ofInt_natCast, BitVec.ofInt_natCast, BitVec.toNat_xor, BitVec.toNat_ofNat, BitVec.toNat_ofNat, Nat.mod_eq_of_lt (by omega), Nat.mod_eq_of_lt (by omega), wrap_u16]
  exact Nat.xor_lt_two_pow (n := 16) hx hy
theorem and1_u16 (x : Nat) (hx : x < 65536) : bits .and .u16 (x : Int) 1 = ((x % 2 : Nat) : Int) := by
  show IntKind.u16.wrap ((BitVec.ofInt 16 (x : Int) &&& BitVec.ofInt 16 ((1 : Nat) : Int)).toNat : Int) = _
  rw [BitVec.ofInt_natCast, BitVec.ofInt_natCast, BitVec.toNat_and, BitVec.toNat_ofNat, BitVec.toNat_ofNat, Nat.mod_eq_of_lt (by omega), Nat.mod_eq_of_lt (by omega), Nat.and_one_is_mod, wrap_u16]
  omega
theorem group_any (w : World) (v : Value) (bs : List UInt8) (p : Nat) (hv : SliceIs w v bs) :
    Calls Tryd.prog 57 #[v, .int .i64 (p : Int)] w fun e w' => e = .returned (.int .u16 (groupN bs p)) ∧ w.grownBy w' none := by
  obtain ⟨a, cap, rfl, hc, hrest⟩ := hv
  by_cases hp : p < bs.length
  · rw [groupN, if_pos hp]
    rcases hrest with ⟨h0, _⟩ | ⟨b, o, rfl, hcell⟩
    · rw [h0] at hp; cases hp
    have t1 : ¬ (p : Int) ≥ (bs.length : Int) := by omega
    have c0 := hcell p hp
    go_enter Tryd.func57, Tryd.ntmps57
    go_wp2
    go_ret
    refine ⟨congrArg Ending.returned (congrArg (Value.int IntKind.u16) ?_), grown_refl _ _⟩
    have hb := (bs[p]).toNat_lt
    generalize (bs[p]).toNat = c at hb ⊢
    rw [wrap_u16 c (by omega), show (256 : Int) = ((256 : Nat) : Int) from rfl, or_u16 256 c (by omega) (by omega)]
  · rw [groupN, if_neg hp]
    have t1 : (p : Int) ≥ (bs.length : Int) := by omega
    go_enter Tryd.func57, Tryd.ntmps57
    go_wp2
    go_ret
    exact ⟨rfl, grown_refl _ _⟩
end Go.Proofs.YtkkcjnhfbblgiaaDoor
