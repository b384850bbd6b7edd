/-
  The document's answers: hexDigit, hexValue.
-/
import Derived.Test.YtpefggkhjocanaaDoorPart1
namespace Go.Proofs.YtpefggkhjocanaaDoor
open Go.RowKit
theorem ret_u8 {x y : Int} (h : x = y) : Ending.returned (Value.int .u8 x) = Ending.returned (Value.int .u8 y) := by rw [h]
theorem ret_i64 {x y : Int} (h : x = y) : Ending.returned (Value.int .i64 x) = Ending.returned (Value.int .i64 y) := by rw [h]
theorem hexDigit_any (n : Nat) (w : World) (h : n < 16) : Calls Tryd.prog 37 #[.int .i64 (n : Int)] w fun e w' => e = .returned (.int .u8 ((hexC n).toNat : Int)) ∧ w' = w := by
  by_cases h1 : n < 10
  · have e : ((hexC n).toNat : Int) = 48 + (n : Int) := by rw [hexC, if_pos h1]; simp; omega
    have hw : IntKind.u8.wrap (48 + (n : Int)) = 48 + (n : Int) := by rw [IntKind.wrap_u8]; omega
    have i1 : (n : Int) < 10 := by omega
    rw [e]
    clear e
    go_enter Tryd.func37, Tryd.ntmps37
    go_wp2
    go_ret
    exact ⟨rfl, rfl⟩
  · have e : ((hexC n).toNat : Int) = 97 + (n : Int) - 10 := by rw [hexC, if_neg h1]; simp; omega
    have hw : IntKind.u8.wrap (97 + (n : Int) - 10) = 97 + (n : Int) - 10 := by rw [IntKind.wrap_u8]; omega
    have i1 : ¬ (n : Int) < 10 := by omega
    rw [e]
    clear e
    go_enter Tryd.func37, Tryd.ntmps37
    go_wp2
    go_ret
    exact ⟨rfl, rfl⟩
theorem hexValue_any (c : UInt8) (w : World) : Calls Tryd.prog 43 #[.int .u8 (c.toNat : Int)] w fun e w' => e = .returned (.int .i64 (hexV c)) ∧ w' = w := by
  have hl := c.toNat_lt
  have HE : Hid (hexV c = if 48 ≤ c.toNat ∧ c.toNat ≤ 57 then (c.toNat : Int) - 48 else if 97 ≤ c.toNat ∧ c.toNat ≤ 102 then (c.toNat : Int) - 97 + 10 else -1) := rfl
  generalize hexV c = z at *
  generalize c.toNat = n at *
  by_cases h1 : 48 ≤ n
  · have i1 : (48 : Int) ≤ (n : Int) := by omega
    have w1 : IntKind.u8.wrap ((n : Int) - 48) = (n : Int) - 48 := by rw [IntKind.wrap_u8]; omega
    by_cases h2 : n ≤ 57
    · have HZ : Hid (z = (n : Int) - 48) := by show _ = _; rw [HE.out, if_pos ⟨h1, h2⟩]
      have i2 : (n : Int) ≤ 57 := by omega
      clear HE
      go_enter Tryd.func43, Tryd.ntmps43
      go_wp2
      go_ret
      exact ⟨by rw [HZ.out]; rfl, rfl⟩
    · have i2 : ¬ (n : Int) ≤ 57 := by omega
      by_cases h3 : 97 ≤ n
      · have i3 : (97 : Int) ≤ (n : Int) := by omega
        have w2 : IntKind.u8.wrap ((n : Int) - 97) = (n : Int) - 97 := by rw [IntKind.wrap_u8]; omega
        by_cases h4 : n ≤ 102
        · have HZ : Hid (z = (n : Int) - 97 + 10) := by show _ = _; rw [HE.out, if_neg (by omega), if_pos ⟨h3, h4⟩]
          have i4 : (n : Int) ≤ 102 := by omega
          clear HE
          go_enter Tryd.func43, Tryd.ntmps43
          go_wp2
          go_ret
          exact ⟨by rw [HZ.out]; rfl, rfl⟩
        · have HZ : Hid (z = -1) := by show _ = _; rw [HE.out, if_neg (by omega), if_neg (by omega)]
          have i4 : ¬ (n : Int) ≤ 102 := by omega
          clear HE
          go_enter Tryd.func43, Tryd.ntmps43
          go_wp2
          go_ret
          exact ⟨by rw [HZ.out]; rfl, rfl⟩
      · have HZ : Hid (z = -1) := by show _ = _; rw [HE.out, if_neg (by omega), if_neg (by omega)]
        have i3 : ¬ (97 : Int) ≤ (n : Int) := by omega
        clear HE
        go_enter Tryd.func43, Tryd.ntmps43
        go_wp2
        go_ret
        exact ⟨by rw [HZ.out]; rfl, rfl⟩
  · have HZ : Hid (z = -1) := by show _ = _; rw [HE.out, if_neg (by omega), if_neg (by omega)]
    have i1 : ¬ (48 : Int) ≤ (n : Int) := by omega
    have i3 : ¬ (97 : Int) ≤ (n : Int) := by omega
    clear HE
    go_enter Tryd.func43, Tryd.ntmps43
    go_wp2
    go_ret
    exact ⟨by rw [HZ.out]; rfl, rfl⟩
end Go.Proofs.YtpefggkhjocanaaDoor
