/-
  The document's answer: ActFault.
-/
import Derived.Test.YtpefggkhjocanaaAcM0
import Derived.Test.YtpefggkhjocanaaLineH
import Derived.Test.YtpefggkhjocanaaRIn
namespace Go.Proofs.Ytpefggkhjocanaa
open Go.RowKit
set_option maxRecDepth 100000 in
set_option maxHeartbeats 4000000 in
theorem actFault_any (w : World) (v : Value) (a : Ac) (hv : AcIs w v a) (hf : AcFits a) :
    Calls Try.prog 5 #[v] w fun e w' => e = .returned (.int .i64 (actE a)) ∧ w.grownBy w' none := by
  obtain ⟨da, dc, rfl, _⟩ := hv.agg
  obtain ⟨W0, HW0, hg0, B0⟩ := alloc_namedR w (.cells #[.int .i64 a.kind, .int .i64 a.sess, .int .i64 a.keep, .slice da a.data.length dc] 24)
  obtain ⟨⟨c0, c1, c2, c3⟩, _⟩ := quad_room (grown_refl W0 none) B0.out
  have IN : Hid (Calls Try.prog 6 #[.int .i64 a.kind, .int .i64 1, .int .i64 4] W0 fun e w' => e = .returned (.bool (decide (1 ≤ a.kind ∧ a.kind ≤ 4))) ∧ w' = W0) := in_any _ _ _ _
  have IS : Hid (Calls Try.prog 6 #[.int .i64 a.sess, .int .i64 0, .int .i64 7] W0 fun e w' => e = .returned (.bool (decide (0 ≤ a.sess ∧ a.sess ≤ 7))) ∧ w' = W0) := in_any _ _ _ _
  have IQ : Hid (Calls Try.prog 6 #[.int .i64 a.keep, .int .i64 0, .int .i64 200000] W0 fun e w' => e = .returned (.bool (decide (0 ≤ a.keep ∧ a.keep ≤ 200000))) ∧ w' = W0) := in_any _ _ _ _
  have hbad : ¬ (1 ≤ a.kind ∧ a.kind ≤ 4) → actE a = 5 := fun h => by rw [actE, if_neg h]
  obtain ⟨K, s, q, d⟩ := a
  simp only at IN IS IQ B0 c0 c1 c2 c3 HW0 hbad ⊢
  have hA := act_ask s q d
  have hC := act_crash s q d
  have hB := fun h => act_bare K s q d h
  have hB2 := act_bare 2 s q d (.inl rfl)
  have hB4 := act_bare 4 s q d (.inr rfl)
  clear hv hf hB
  generalize d.length = n at *
  by_cases hk : 1 ≤ K ∧ K ≤ 4
  · rw [decide_eq_true hk] at IN
    have hk4 : K = 1 ∨ K = 2 ∨ K = 3 ∨ K = 4 := by omega
    clear hk hbad
    rcases hk4 with rfl | rfl | rfl | rfl
    · have HZ : Hid (actE ⟨1, s, q, d⟩ = _) := hA
      generalize actE ⟨1, s, q, d⟩ = Z at *
      clear hA hC hB2 hB4
      go_enter Try.func5, Try.ntmps5
      go_upto_region 1 with fail
      rw [← HW0.out]
      clear HW0
      go_wp2_with fail
      refine IN.out.mono ?_
      rintro e w1 ⟨rfl, hw⟩
      rw [hw]
      clear hw
      by_cases h1 : 0 ≤ s ∧ s ≤ 7
      · rw [decide_eq_true h1] at IS
        have HZ1 := HZ.out
        rw [if_pos h1] at HZ1
        replace HZ : Hid (Z = _) := HZ1
        clear HZ1 h1
        go_wp2_with fail
        refine IS.out.mono ?_
        rintro e w1 ⟨rfl, hw⟩
        rw [hw]
        clear hw
        by_cases h2 : 4000 < n
        · have HR : Hid (Z = 1) := by show _ = _; rw [HZ.out, if_pos h2]
          have i2 : (n : Int) > 4000 := by omega
          clear h2 HZ
          go_wp2
          go_ret
          exact ⟨by rw [HR.out]; rfl, hg0⟩
        · have HZ1 := HZ.out
          rw [if_neg h2] at HZ1
          replace HZ : Hid (Z = _) := HZ1
          have i2 : ¬ (n : Int) > 4000 := by omega
          clear HZ1 h2
          by_cases hq : q = 0
          · have HZ1 := HZ.out
            rw [if_pos hq] at HZ1
            replace HZ : Hid (Z = _) := HZ1
            have bq : (q != 0) = false := by simp [hq]
            clear HZ1 hq
            have HR : Hid (Z = 0) := HZ.out
            go_wp2
            go_ret
            exact ⟨by rw [HR.out]; rfl, hg0⟩
          · have HR : Hid (Z = 4) := by show _ = _; rw [HZ.out, if_neg hq]
            have bq : (q != 0) = true := by simp [hq]
            clear hq HZ
            go_wp2
            go_ret
            exact ⟨by rw [HR.out]; rfl, hg0⟩
      · rw [decide_eq_false h1] at IS
        have HR : Hid (Z = 2) := by show _ = _; rw [HZ.out, if_neg h1]
        clear h1 HZ
        go_wp2_with fail
        refine IS.out.mono ?_
        rintro e w1 ⟨rfl, hw⟩
        rw [hw]
        clear hw
        go_wp2
        go_ret
        exact ⟨by rw [HR.out]; rfl, hg0⟩
    · have HZ : Hid (actE ⟨2, s, q, d⟩ = _) := hB2
      generalize actE ⟨2, s, q, d⟩ = Z at *
      clear hB2 hA hC hB4
      go_enter Try.func5, Try.ntmps5
      go_upto_region 1 with fail
      rw [← HW0.out]
      clear HW0
      go_wp2_with fail
      refine IN.out.mono ?_
      rintro e w1 ⟨rfl, hw⟩
      rw [hw]
      clear hw
      by_cases h2 : 4000 < n
      · have HR : Hid (Z = 1) := by show _ = _; rw [HZ.out, if_pos h2]
        have i2 : (n : Int) > 4000 := by omega
        clear h2 HZ
        go_wp2
        go_ret
        exact ⟨by rw [HR.out]; rfl, hg0⟩
      · have HZ1 := HZ.out
        rw [if_neg h2] at HZ1
        replace HZ : Hid (Z = _) := HZ1
        have i2 : ¬ (n : Int) > 4000 := by omega
        clear HZ1 h2
        by_cases hs : s = 0
        · have HZ1 := HZ.out
          rw [if_pos hs] at HZ1
          replace HZ : Hid (Z = _) := HZ1
          have bs : (s != 0) = false := by simp [hs]
          clear HZ1 hs
          by_cases hq : q = 0
          · have HZ1 := HZ.out
            rw [if_pos hq] at HZ1
            replace HZ : Hid (Z = _) := HZ1
            have bq : (q != 0) = false := by simp [hq]
            clear HZ1 hq
            by_cases hd : 0 < n
            · have HR : Hid (Z = 4) := by show _ = _; rw [HZ.out, if_pos hd]
              have i4 : (n : Int) > 0 := by omega
              clear hd HZ
              go_wp2
              go_ret
              exact ⟨by rw [HR.out]; rfl, hg0⟩
            · have HR : Hid (Z = 0) := by show _ = _; rw [HZ.out, if_neg hd]
              have i4 : ¬ (n : Int) > 0 := by omega
              clear hd HZ
              go_wp2
              go_ret
              exact ⟨by rw [HR.out]; rfl, hg0⟩
          · have HR : Hid (Z = 4) := by show _ = _; rw [HZ.out, if_neg hq]
            have bq : (q != 0) = true := by simp [hq]
            clear hq HZ
            go_wp2
            go_ret
            exact ⟨by rw [HR.out]; rfl, hg0⟩
        · have HR : Hid (Z = 4) := by show _ = _; rw [HZ.out, if_neg hs]
          have bs : (s != 0) = true := by simp [hs]
          clear hs HZ
          go_wp2
          go_ret
          exact ⟨by rw [HR.out]; rfl, hg0⟩
    · have HZ : Hid (actE ⟨3, s, q, d⟩ = _) := hC
      generalize actE ⟨3, s, q, d⟩ = Z at *
      clear hC hA hB2 hB4
      go_enter Try.func5, Try.ntmps5
      go_upto_region 1 with fail
      rw [← HW0.out]
      clear HW0
      go_wp2_with fail
      refine IN.out.mono ?_
      rintro e w1 ⟨rfl, hw⟩
      rw [hw]
      clear hw
      by_cases h1 : 0 ≤ q ∧ q ≤ 200000
      · rw [decide_eq_true h1] at IQ
        have HZ1 := HZ.out
        rw [if_pos h1] at HZ1
        replace HZ : Hid (Z = _) := HZ1
        clear HZ1 h1
        go_wp2_with fail
        refine IQ.out.mono ?_
        rintro e w1 ⟨rfl, hw⟩
        rw [hw]
        clear hw
        by_cases h2 : 4000 < n
        · have HR : Hid (Z = 1) := by show _ = _; rw [HZ.out, if_pos h2]
          have i2 : (n : Int) > 4000 := by omega
          clear h2 HZ
          go_wp2
          go_ret
          exact ⟨by rw [HR.out]; rfl, hg0⟩
        · have HZ1 := HZ.out
          rw [if_neg h2] at HZ1
          replace HZ : Hid (Z = _) := HZ1
          have i2 : ¬ (n : Int) > 4000 := by omega
          clear HZ1 h2
          by_cases hs : s = 0
          · have HZ1 := HZ.out
            rw [if_pos hs] at HZ1
            replace HZ : Hid (Z = _) := HZ1
            have bs : (s != 0) = false := by simp [hs]
            clear HZ1 hs
            by_cases hd : 0 < n
            · have HR : Hid (Z = 4) := by show _ = _; rw [HZ.out, if_pos hd]
              have i4 : (n : Int) > 0 := by omega
              clear hd HZ
              go_wp2
              go_ret
              exact ⟨by rw [HR.out]; rfl, hg0⟩
            · have HR : Hid (Z = 0) := by show _ = _; rw [HZ.out, if_neg hd]
              have i4 : ¬ (n : Int) > 0 := by omega
              clear hd HZ
              go_wp2
              go_ret
              exact ⟨by rw [HR.out]; rfl, hg0⟩
          · have HR : Hid (Z = 4) := by show _ = _; rw [HZ.out, if_neg hs]
            have bs : (s != 0) = true := by simp [hs]
            clear hs HZ
            go_wp2
            go_ret
            exact ⟨by rw [HR.out]; rfl, hg0⟩
      · rw [decide_eq_false h1] at IQ
        have HR : Hid (Z = 2) := by show _ = _; rw [HZ.out, if_neg h1]
        clear h1 HZ
        go_wp2_with fail
        refine IQ.out.mono ?_
        rintro e w1 ⟨rfl, hw⟩
        rw [hw]
        clear hw
        go_wp2
        go_ret
        exact ⟨by rw [HR.out]; rfl, hg0⟩
    · have HZ : Hid (actE ⟨4, s, q, d⟩ = _) := hB4
      generalize actE ⟨4, s, q, d⟩ = Z at *
      clear hB4 hA hC hB2
      go_enter Try.func5, Try.ntmps5
      go_upto_region 1 with fail
      rw [← HW0.out]
      clear HW0
      go_wp2_with fail
      refine IN.out.mono ?_
      rintro e w1 ⟨rfl, hw⟩
      rw [hw]
      clear hw
      by_cases h2 : 4000 < n
      · have HR : Hid (Z = 1) := by show _ = _; rw [HZ.out, if_pos h2]
        have i2 : (n : Int) > 4000 := by omega
        clear h2 HZ
        go_wp2
        go_ret
        exact ⟨by rw [HR.out]; rfl, hg0⟩
      · have HZ1 := HZ.out
        rw [if_neg h2] at HZ1
        replace HZ : Hid (Z = _) := HZ1
        have i2 : ¬ (n : Int) > 4000 := by omega
        clear HZ1 h2
        by_cases hs : s = 0
        · have HZ1 := HZ.out
          rw [if_pos hs] at HZ1
          replace HZ : Hid (Z = _) := HZ1
          have bs : (s != 0) = false := by simp [hs]
          clear HZ1 hs
          by_cases hq : q = 0
          · have HZ1 := HZ.out
            rw [if_pos hq] at HZ1
            replace HZ : Hid (Z = _) := HZ1
            have bq : (q != 0) = false := by simp [hq]
            clear HZ1 hq
            by_cases hd : 0 < n
            · have HR : Hid (Z = 4) := by show _ = _; rw [HZ.out, if_pos hd]
              have i4 : (n : Int) > 0 := by omega
              clear hd HZ
              go_wp2
              go_ret
              exact ⟨by rw [HR.out]; rfl, hg0⟩
            · have HR : Hid (Z = 0) := by show _ = _; rw [HZ.out, if_neg hd]
              have i4 : ¬ (n : Int) > 0 := by omega
              clear hd HZ
              go_wp2
              go_ret
              exact ⟨by rw [HR.out]; rfl, hg0⟩
          · have HR : Hid (Z = 4) := by show _ = _; rw [HZ.out, if_neg hq]
            have bq : (q != 0) = true := by simp [hq]
            clear hq HZ
            go_wp2
            go_ret
            exact ⟨by rw [HR.out]; rfl, hg0⟩
        · have HR : Hid (Z = 4) := by show _ = _; rw [HZ.out, if_neg hs]
          have bs : (s != 0) = true := by simp [hs]
          clear hs HZ
          go_wp2
          go_ret
          exact ⟨by rw [HR.out]; rfl, hg0⟩
  · rw [decide_eq_false hk] at IN
    rw [hbad hk]
    clear hk hbad hA hC hB2 hB4
    go_enter Try.func5, Try.ntmps5
    go_upto_region 1 with fail
    rw [← HW0.out]
    clear HW0
    go_wp2_with fail
    refine IN.out.mono ?_
    rintro e w1 ⟨rfl, hw⟩
    rw [hw]
    clear hw
    go_wp2
    go_ret
    exact ⟨rfl, hg0⟩
end Go.Proofs.Ytpefggkhjocanaa
