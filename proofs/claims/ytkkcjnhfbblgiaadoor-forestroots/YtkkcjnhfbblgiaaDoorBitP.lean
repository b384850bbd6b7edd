/-
  path.Bit, as it landed, keeps P2.2.
-/
import Derived.Test.YtkkcjnhfbblgiaaDoorCheckP
import Derived.Test.YtkkcjnhfbblgiaaDoorPart2
import Derived.Test.YtkkcjnhfbblgiaaDoorGroup
namespace Go.Proofs.YtkkcjnhfbblgiaaDoor
open Go.RowKit
set_option maxRecDepth 100000 in
set_option maxHeartbeats 1000000 in
theorem bit_ok : BitOK := by
  intro w v bs i hv
  obtain ⟨a, cap, rfl, hc, hrest⟩ := hv
  have hv : SliceIs w (.slice a bs.length cap) bs := ⟨a, cap, rfl, hc, hrest⟩
  clear hrest
  by_cases hk : 1 ≤ bs.length ∧ bs.length ≤ 16
  · by_cases hi : 0 ≤ i ∧ i ≤ 144
    · rw [bitF, if_pos hk, if_pos hi]
      obtain ⟨n, rfl⟩ : ∃ n : Nat, i = (n : Int) := ⟨i.toNat, by omega⟩
      have t1 : ¬ (n : Int) < 0 := by omega
      have t2 : ¬ (n : Int) ≥ 145 := by omega
      go_enter Tryd.func48, Tryd.ntmps48
      go_wp2_with fail
      refine (check_ok _ _ _ _).mono ?_
      rintro e w1 ⟨rfl, hg1⟩
      rw [keyFaultF, if_pos hk]
      go_wp2_with fail
      refine (group_any _ _ _ (n / 9) (hv.grown hg1)).mono ?_
      rintro e w2 ⟨rfl, hg2⟩
      have hgn := groupN_lt bs (n / 9)
      have HB : Hid (kbit bs n = (groupN bs (n / 9)).testBit (8 - n % 9)) := kbit_group bs n
      generalize groupN bs (n / 9) = g at hgn HB ⊢
      have q1 : 0 ≤ (8 : Int) - (n : Int) % 9 := by omega
      go_wp2
      go_ret2
      refine ⟨?_, grown_trans hg1 hg2⟩
      have he : (g : Int) / 2 ^ (8 - n % 9) = ((g / 2 ^ (8 - n % 9) : Nat) : Int) := by simp
      have hlt : g / 2 ^ (8 - n % 9) < 65536 := Nat.lt_of_le_of_lt (Nat.div_le_self _ _) (by omega)
      rw [he, and1_u16 _ hlt, show kbit bs ((n : Int)).toNat = kbit bs n from rfl, HB.out, Nat.testBit_eq_decide_div_mod_eq]
      congr 4
      generalize g / 2 ^ (8 - n % 9) % 2 = x
      by_cases hx : x = 1
      · subst hx; rfl
      · have : ¬ (x : Int) = 1 := by omega
        simp [hx, this]
    · rw [bitF, if_pos hk, if_neg hi]
      go_enter Tryd.func48, Tryd.ntmps48
      go_wp2_with fail
      refine (check_ok _ _ _ _).mono ?_
      rintro e w1 ⟨rfl, hg1⟩
      rw [keyFaultF, if_pos hk]
      by_cases h0 : i < 0
      · go_wp2
        go_ret2
        exact ⟨rfl, hg1⟩
      · have h1 : i ≥ 145 := by omega
        go_wp2
        go_ret2
        exact ⟨rfl, hg1⟩
  · rw [bitF, if_neg hk]
    go_enter Tryd.func48, Tryd.ntmps48
    go_wp2_with fail
    refine (check_ok _ _ _ _).mono ?_
    rintro e w1 ⟨rfl, hg1⟩
    rw [keyFaultF, if_neg hk]
    go_wp2
    go_ret2
    exact ⟨rfl, hg1⟩
end Go.Proofs.YtkkcjnhfbblgiaaDoor
