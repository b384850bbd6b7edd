/-
  path.Part, as it landed, keeps P2.3.
-/
import Derived.Test.YtkkcjnhfbblgiaaDoorCheckP
import Derived.Test.YtkkcjnhfbblgiaaDoorPart2
import Derived.Test.YtkkcjnhfbblgiaaDoorGroup
import Derived.Test.YtkkcjnhfbblgiaaDoorLen16
namespace Go.Proofs.YtkkcjnhfbblgiaaDoor
open Go.RowKit
/-- Where two groups differ first. -/
theorem part_group (a b : List UInt8) (p : Nat) (hp : p < 16) (h : ∀ q, q < p → groupN a q = groupN b q) (hd : groupN a p ^^^ groupN b p ≠ 0) :
    partK a b = ((9 * p + 9 - Lib.bitLen (groupN a p ^^^ groupN b p) : Nat) : Int) ∧ 1 ≤ Lib.bitLen (groupN a p ^^^ groupN b p) ∧ Lib.bitLen (groupN a p ^^^ groupN b p) ≤ 9 := by
  have hlt : groupN a p ^^^ groupN b p < 512 := Nat.xor_lt_two_pow (n := 9) (groupN_lt a p) (groupN_lt b p)
  obtain ⟨h1, h2, h3, h4⟩ := bitLen_512 ⟨_, hlt⟩ hd
  simp only at h1 h2 h3 h4
  generalize hL : Lib.bitLen (groupN a p ^^^ groupN b p) = L at h1 h2 h3 h4
  refine ⟨partK_of a b _ (by omega) (fun j hj => ?_) ?_, h1, h2⟩
  · rw [kbit_group, kbit_group]
    by_cases hjp : j / 9 < p
    · rw [h _ hjp]
    · have e : j / 9 = p := by omega
      have := h4 ⟨8 - j % 9, by omega⟩ (by simp only; omega)
      simp only [Nat.testBit_xor] at this
      rw [e]
      revert this
      cases (groupN a p).testBit (8 - j % 9) <;> cases (groupN b p).testBit (8 - j % 9) <;> simp
  · rw [kbit_group, kbit_group, show (9 * p + 9 - L) / 9 = p by omega, show 8 - (9 * p + 9 - L) % 9 = L - 1 by omega]
    rw [Nat.testBit_xor] at h3
    intro e
    rw [e] at h3
    simp at h3
theorem part_none (a b : List UInt8) (h : ∀ q, q < max a.length b.length → groupN a q = groupN b q) : partK a b = -1 := by
  refine partK_none a b fun j _ => ?_
  rw [kbit_group, kbit_group]
  by_cases hj : j / 9 < max a.length b.length
  · rw [h _ hj]
  · rw [groupN, if_neg (by omega), groupN, if_neg (by omega)]
theorem xor_ne (x y : Nat) (h : x ^^^ y = 0) : x = y := by
  apply Nat.eq_of_testBit_eq
  intro i
  have := congrArg (·.testBit i) h
  simp only [Nat.testBit_xor, Nat.zero_testBit] at this
  revert this
  cases x.testBit i <;> cases y.testBit i <;> simp
set_option maxRecDepth 100000 in
set_option maxHeartbeats 1000000 in
theorem part_ok : PartOK := by
  intro w v u a b hv hu
  obtain ⟨va, vcap, rfl, hvc, hvr⟩ := hv
  have hv : SliceIs w (.slice va a.length vcap) a := ⟨va, vcap, rfl, hvc, hvr⟩
  obtain ⟨ua, ucap, rfl, huc, hur⟩ := hu
  have hu : SliceIs w (.slice ua b.length ucap) b := ⟨ua, ucap, rfl, huc, hur⟩
  clear hvr hur
  by_cases ha : 1 ≤ a.length ∧ a.length ≤ 16
  · by_cases hb : 1 ≤ b.length ∧ b.length ≤ 16
    · rw [partF, if_pos ha, if_pos hb]
      go_enter Tryd.func45, Tryd.ntmps45
      go_wp2_with fail
      refine (check_ok _ _ _ _).mono ?_
      rintro e w1 ⟨rfl, hg1⟩
      rw [keyFaultF, if_pos ha]
      go_wp2_with fail
      refine (check_ok _ _ _ _).mono ?_
      rintro e w2 ⟨rfl, hg2⟩
      rw [keyFaultF, if_pos hb]
      have hg := grown_trans hg1 hg2
      have hv2 := hv.grown hg
      have hu2 := hu.grown hg
      obtain ⟨M, hM⟩ : ∃ M : Nat, M = max a.length b.length := ⟨_, rfl⟩
      have hM16 : M ≤ 16 := by omega
      have HMi : Hid (max (a.length : Int) (b.length : Int) = (M : Int)) := by show max (a.length : Int) (b.length : Int) = (M : Int); omega
      have HM : Hid (M = max a.length b.length) := hM
      clear hv hu hg1 hg2 hM
      go_wp2_with fail
      rw [HMi.out]
      go_loopw [21] (fun iv wr => ∃ m : Nat, m ≤ M ∧ iv = .int .i64 (m : Int) ∧ w2.grownBy wr none ∧ ∀ q, q < m → groupN a q = groupN b q) (fun iv _ => M - (intOf iv).toNat)
      case atStart => exact ⟨0, by omega, rfl, grown_refl _ _, fun j hj => by omega⟩
      case round =>
        obtain ⟨m, hm, rfl, hgr, hsame⟩ := hrel
        have HSame : Hid (∀ j, j < m → groupN a j = groupN b j) := hsame
        have hgw := grown_trans hg hgr
        have hvr := hv2.grown hgr
        have hur := hu2.grown hgr
        clear hsame
        by_cases hlt : m < M
        · have t1 : (m : Int) < (M : Int) := by omega
          go_wp2_with fail
          refine (group_any _ _ _ m hvr).mono ?_
          rintro e w3 ⟨rfl, hg3⟩
          go_wp2_with fail
          refine (group_any _ _ _ m (hur.grown hg3)).mono ?_
          rintro e w4 ⟨rfl, hg4⟩
          have hx := xor_u16 (groupN a m) (groupN b m) (Nat.lt_trans (groupN_lt a m) (by decide)) (Nat.lt_trans (groupN_lt b m) (by decide))
          have hxl : groupN a m ^^^ groupN b m < 512 := Nat.xor_lt_two_pow (n := 9) (groupN_lt a m) (groupN_lt b m)
          by_cases h0 : groupN a m ^^^ groupN b m = 0
          · have HE : Hid (groupN a m = groupN b m) := xor_ne _ _ h0
            rw [h0] at hx
            go_wp2_with fail
            go_roundw
            case rel =>
              have hs : ∀ j, j < m + 1 → groupN a j = groupN b j := fun j hj => by
                by_cases hjm : j = m
                · subst hjm; exact HE.out
                · exact HSame.out j (by omega)
              first
                | exact ⟨m + 1, by omega, by go_num, grown_trans hgr (grown_trans hg3 hg4), hs⟩
                | ((repeat apply Exists.intro); refine ⟨⟨m + 1, by omega, ?_, grown_trans hgr (grown_trans hg3 hg4), hs⟩, rfl⟩; go_num)
            case measure => simp [intOf]; omega
          · obtain ⟨hP, hL1, hL2⟩ := part_group a b m (by omega) HSame.out h0
            have HP : Hid (partK a b = _) := hP
            clear hP
            generalize groupN a m ^^^ groupN b m = x at *
            have hx0 : ((x : Int) != 0) = true := by simp; omega
            go_wp2_with fail
            refine (len16_any (x : Int) _ (by omega) (by omega)).mono ?_
            rintro e w5 ⟨rfl, rfl⟩
            rw [show ((x : Int)).toNat = x from rfl]
            generalize Lib.bitLen x = L at *
            go_wp2
            go_ret2
            refine ⟨?_, grown_trans hgw (grown_trans hg3 hg4)⟩
            rw [HP.out, show ((9 * m + 9 - L : Nat) : Int) = (m : Int) * 9 + 9 - (L : Int) by omega]
            rfl
        · obtain rfl : m = M := by omega
          have HP : Hid (partK a b = -1) := part_none a b (by rw [← HM.out]; exact HSame.out)
          go_wp2
          go_ret2
          exact ⟨by rw [HP.out]; rfl, hgw⟩
    · rw [partF, if_pos ha, if_neg hb]
      go_enter Tryd.func45, Tryd.ntmps45
      go_wp2_with fail
      refine (check_ok _ _ _ _).mono ?_
      rintro e w1 ⟨rfl, hg1⟩
      rw [keyFaultF, if_pos ha]
      go_wp2_with fail
      refine (check_ok _ _ _ _).mono ?_
      rintro e w2 ⟨rfl, hg2⟩
      rw [keyFaultF, if_neg hb]
      go_wp2
      go_ret2
      exact ⟨rfl, grown_trans hg1 hg2⟩
  · rw [partF, if_neg ha]
    go_enter Tryd.func45, Tryd.ntmps45
    go_wp2_with fail
    refine (check_ok _ _ _ _).mono ?_
    rintro e w1 ⟨rfl, hg1⟩
    rw [keyFaultF, if_neg ha]
    go_wp2
    go_ret2
    exact ⟨rfl, hg1⟩
end Go.Proofs.YtkkcjnhfbblgiaaDoor
