/-
  lines.Check, as it landed, keeps P10.1.
-/
import Derived.Test.YtpefggkhjocanaaDoorLnCk
import Derived.Test.YtpefggkhjocanaaDoorLineH
import Derived.BigQuiet
namespace Go.Proofs.YtpefggkhjocanaaDoor
open Go.RowKit
theorem act_else {k : Int} (s q : Int) (d : List UInt8) (h : ¬ (1 ≤ k ∧ k ≤ 4)) : actE ⟨k, s, q, d⟩ = 5 := by rw [actE, if_neg h]
set_option maxRecDepth 100000 in
set_option maxHeartbeats 4000000 in
theorem lncheck_ok : LnCheckOK := by
  intro w v a hv hf
  obtain ⟨da, dc, rfl, _⟩ := hv.agg
  obtain ⟨W0, HW0, hg0, B0⟩ := alloc_namedR w (.cells #[.int .i64 a.kind, .int .i64 a.sess, .int .i64 a.keep, .slice da a.data.length dc] 36)
  obtain ⟨⟨c0, c1, c2, c3⟩, _⟩ := quad_room (grown_refl W0 none) B0.out
  obtain ⟨K, s, q, d⟩ := a
  simp only at B0 c0 c1 c2 c3 HW0 ⊢
  have hA := act_ask s q d
  have hC := act_crash s q d
  have hB2 := act_bare 2 s q d (.inl rfl)
  have hB4 := act_bare 4 s q d (.inr rfl)
  have hE : ¬ (1 ≤ K ∧ K ≤ 4) → actE ⟨K, s, q, d⟩ = 5 := fun h => act_else s q d h
  clear hv hf
  generalize d.length = n at *
  by_cases hk : 1 ≤ K ∧ K ≤ 4
  · have hk4 : K = 1 ∨ K = 2 ∨ K = 3 ∨ K = 4 := by omega
    clear hk
    rcases hk4 with rfl | rfl | rfl | rfl
    · have HZ : Hid (actE ⟨1, s, q, d⟩ = _) := hA
      generalize actE ⟨1, s, q, d⟩ = Z at *
      clear hA hC hB2 hB4 hE
      by_cases h1 : 0 ≤ s ∧ s ≤ 7
      · have g1 : ¬ s < 0 := by omega
        have g2 : ¬ s ≥ 8 := by omega
        by_cases h2 : 4000 < n
        · have HR : Hid (Z = 1) := by show _ = _; rw [HZ.out, if_pos h1, if_pos h2]
          have i0 : (n : Int) > 4000 := by omega
          clear HZ
          (try clear h5); (try clear h4); (try clear h3); (try clear h2); (try clear h1); (try clear hk)
          go_enter Tryd.func18, Tryd.ntmps18
          go_upto_region 1 with fail
          rw [← HW0.out]
          clear HW0
          go_quiet (fail)
          go_wp2
          go_ret
          exact ⟨by rw [HR.out]; rfl, grown_drewN hg0 _⟩
        · have g3 : ¬ (n : Int) > 4000 := by omega
          by_cases h3 : q = 0
          · have HR : Hid (Z = 0) := by show _ = _; rw [HZ.out, if_pos h1, if_neg h2, if_pos h3]
            have i0 : (q != 0) = false := by simp [h3]
            clear HZ
            (try clear h5); (try clear h4); (try clear h3); (try clear h2); (try clear h1); (try clear hk)
            go_enter Tryd.func18, Tryd.ntmps18
            go_upto_region 1 with fail
            rw [← HW0.out]
            clear HW0
            go_quiet (fail)
            go_wp2
            go_ret
            exact ⟨by rw [HR.out]; rfl, grown_drewN hg0 _⟩
          · have HR : Hid (Z = 4) := by show _ = _; rw [HZ.out, if_pos h1, if_neg h2, if_neg h3]
            have i0 : (q != 0) = true := by simp [h3]
            clear HZ
            (try clear h5); (try clear h4); (try clear h3); (try clear h2); (try clear h1); (try clear hk)
            go_enter Tryd.func18, Tryd.ntmps18
            go_upto_region 1 with fail
            rw [← HW0.out]
            clear HW0
            go_quiet (fail)
            go_wp2
            go_ret
            exact ⟨by rw [HR.out]; rfl, grown_drewN hg0 _⟩
      · by_cases h2 : s < 0
        · have HR : Hid (Z = 2) := by show _ = _; rw [HZ.out, if_neg h1]
          have i0 : s < 0 := by omega
          clear HZ
          (try clear h5); (try clear h4); (try clear h3); (try clear h2); (try clear h1); (try clear hk)
          go_enter Tryd.func18, Tryd.ntmps18
          go_upto_region 1 with fail
          rw [← HW0.out]
          clear HW0
          go_quiet (fail)
          go_wp2
          go_ret
          exact ⟨by rw [HR.out]; rfl, grown_drewN hg0 _⟩
        · have HR : Hid (Z = 2) := by show _ = _; rw [HZ.out, if_neg h1]
          have i0 : s ≥ 8 := by omega
          have i1 : ¬ s < 0 := by omega
          clear HZ
          (try clear h5); (try clear h4); (try clear h3); (try clear h2); (try clear h1); (try clear hk)
          go_enter Tryd.func18, Tryd.ntmps18
          go_upto_region 1 with fail
          rw [← HW0.out]
          clear HW0
          go_quiet (fail)
          go_wp2
          go_ret
          exact ⟨by rw [HR.out]; rfl, grown_drewN hg0 _⟩
    · have HZ : Hid (actE ⟨2, s, q, d⟩ = _) := hB2
      generalize actE ⟨2, s, q, d⟩ = Z at *
      clear hB2 hA hC hB4 hE
      by_cases h2 : 4000 < n
      · have HR : Hid (Z = 1) := by show _ = _; rw [HZ.out, if_pos h2]
        have i0 : (n : Int) > 4000 := by omega
        clear HZ
        (try clear h5); (try clear h4); (try clear h3); (try clear h2); (try clear h1); (try clear hk)
        go_enter Tryd.func18, Tryd.ntmps18
        go_upto_region 1 with fail
        rw [← HW0.out]
        clear HW0
        go_quiet (fail)
        go_wp2
        go_ret
        exact ⟨by rw [HR.out]; rfl, grown_drewN hg0 _⟩
      · have g3 : ¬ (n : Int) > 4000 := by omega
        by_cases h3 : s = 0
        · have g4 : (s != 0) = false := by simp [h3]
          by_cases h5 : q = 0
          · have g5 : (q != 0) = false := by simp [h5]
            by_cases h4 : 0 < n
            · have HR : Hid (Z = 4) := by show _ = _; rw [HZ.out, if_neg h2, if_pos h3, if_pos h5, if_pos h4]
              have i0 : (n : Int) > 0 := by omega
              clear HZ
              (try clear h5); (try clear h4); (try clear h3); (try clear h2); (try clear h1); (try clear hk)
              go_enter Tryd.func18, Tryd.ntmps18
              go_upto_region 1 with fail
              rw [← HW0.out]
              clear HW0
              go_quiet (fail)
              go_wp2
              go_ret
              exact ⟨by rw [HR.out]; rfl, grown_drewN hg0 _⟩
            · have HR : Hid (Z = 0) := by show _ = _; rw [HZ.out, if_neg h2, if_pos h3, if_pos h5, if_neg h4]
              have i0 : ¬ (n : Int) > 0 := by omega
              clear HZ
              (try clear h5); (try clear h4); (try clear h3); (try clear h2); (try clear h1); (try clear hk)
              go_enter Tryd.func18, Tryd.ntmps18
              go_upto_region 1 with fail
              rw [← HW0.out]
              clear HW0
              go_quiet (fail)
              go_wp2
              go_ret
              exact ⟨by rw [HR.out]; rfl, grown_drewN hg0 _⟩
          · have g5 : (q != 0) = true := by simp [h5]
            by_cases h4 : 0 < n
            · have HR : Hid (Z = 4) := by show _ = _; rw [HZ.out, if_neg h2, if_pos h3, if_neg h5]
              have i0 : (n : Int) > 0 := by omega
              clear HZ
              (try clear h5); (try clear h4); (try clear h3); (try clear h2); (try clear h1); (try clear hk)
              go_enter Tryd.func18, Tryd.ntmps18
              go_upto_region 1 with fail
              rw [← HW0.out]
              clear HW0
              go_quiet (fail)
              go_wp2
              go_ret
              exact ⟨by rw [HR.out]; rfl, grown_drewN hg0 _⟩
            · have HR : Hid (Z = 4) := by show _ = _; rw [HZ.out, if_neg h2, if_pos h3, if_neg h5]
              have i0 : ¬ (n : Int) > 0 := by omega
              clear HZ
              (try clear h5); (try clear h4); (try clear h3); (try clear h2); (try clear h1); (try clear hk)
              go_enter Tryd.func18, Tryd.ntmps18
              go_upto_region 1 with fail
              rw [← HW0.out]
              clear HW0
              go_quiet (fail)
              go_wp2
              go_ret
              exact ⟨by rw [HR.out]; rfl, grown_drewN hg0 _⟩
        · have HR : Hid (Z = 4) := by show _ = _; rw [HZ.out, if_neg h2, if_neg h3]
          have i0 : (s != 0) = true := by simp [h3]
          clear HZ
          (try clear h5); (try clear h4); (try clear h3); (try clear h2); (try clear h1); (try clear hk)
          go_enter Tryd.func18, Tryd.ntmps18
          go_upto_region 1 with fail
          rw [← HW0.out]
          clear HW0
          go_quiet (fail)
          go_wp2
          go_ret
          exact ⟨by rw [HR.out]; rfl, grown_drewN hg0 _⟩
    · have HZ : Hid (actE ⟨3, s, q, d⟩ = _) := hC
      generalize actE ⟨3, s, q, d⟩ = Z at *
      clear hC hA hB2 hB4 hE
      by_cases h1 : 0 ≤ q ∧ q ≤ 200000
      · have g1 : ¬ q < 0 := by omega
        have g2 : ¬ q > 200000 := by omega
        by_cases h2 : 4000 < n
        · have HR : Hid (Z = 1) := by show _ = _; rw [HZ.out, if_pos h1, if_pos h2]
          have i0 : (n : Int) > 4000 := by omega
          clear HZ
          (try clear h5); (try clear h4); (try clear h3); (try clear h2); (try clear h1); (try clear hk)
          go_enter Tryd.func18, Tryd.ntmps18
          go_upto_region 1 with fail
          rw [← HW0.out]
          clear HW0
          go_quiet (fail)
          go_wp2
          go_ret
          exact ⟨by rw [HR.out]; rfl, grown_drewN hg0 _⟩
        · have g3 : ¬ (n : Int) > 4000 := by omega
          by_cases h3 : s = 0
          · have g4 : (s != 0) = false := by simp [h3]
            by_cases h4 : 0 < n
            · have HR : Hid (Z = 4) := by show _ = _; rw [HZ.out, if_pos h1, if_neg h2, if_pos h3, if_pos h4]
              have i0 : (n : Int) > 0 := by omega
              clear HZ
              (try clear h5); (try clear h4); (try clear h3); (try clear h2); (try clear h1); (try clear hk)
              go_enter Tryd.func18, Tryd.ntmps18
              go_upto_region 1 with fail
              rw [← HW0.out]
              clear HW0
              go_quiet (fail)
              go_wp2
              go_ret
              exact ⟨by rw [HR.out]; rfl, grown_drewN hg0 _⟩
            · have HR : Hid (Z = 0) := by show _ = _; rw [HZ.out, if_pos h1, if_neg h2, if_pos h3, if_neg h4]
              have i0 : ¬ (n : Int) > 0 := by omega
              clear HZ
              (try clear h5); (try clear h4); (try clear h3); (try clear h2); (try clear h1); (try clear hk)
              go_enter Tryd.func18, Tryd.ntmps18
              go_upto_region 1 with fail
              rw [← HW0.out]
              clear HW0
              go_quiet (fail)
              go_wp2
              go_ret
              exact ⟨by rw [HR.out]; rfl, grown_drewN hg0 _⟩
          · have HR : Hid (Z = 4) := by show _ = _; rw [HZ.out, if_pos h1, if_neg h2, if_neg h3]
            have i0 : (s != 0) = true := by simp [h3]
            clear HZ
            (try clear h5); (try clear h4); (try clear h3); (try clear h2); (try clear h1); (try clear hk)
            go_enter Tryd.func18, Tryd.ntmps18
            go_upto_region 1 with fail
            rw [← HW0.out]
            clear HW0
            go_quiet (fail)
            go_wp2
            go_ret
            exact ⟨by rw [HR.out]; rfl, grown_drewN hg0 _⟩
      · by_cases h2 : q < 0
        · have HR : Hid (Z = 2) := by show _ = _; rw [HZ.out, if_neg h1]
          have i0 : q < 0 := by omega
          clear HZ
          (try clear h5); (try clear h4); (try clear h3); (try clear h2); (try clear h1); (try clear hk)
          go_enter Tryd.func18, Tryd.ntmps18
          go_upto_region 1 with fail
          rw [← HW0.out]
          clear HW0
          go_quiet (fail)
          go_wp2
          go_ret
          exact ⟨by rw [HR.out]; rfl, grown_drewN hg0 _⟩
        · have HR : Hid (Z = 2) := by show _ = _; rw [HZ.out, if_neg h1]
          have i0 : q > 200000 := by omega
          have i1 : ¬ q < 0 := by omega
          clear HZ
          (try clear h5); (try clear h4); (try clear h3); (try clear h2); (try clear h1); (try clear hk)
          go_enter Tryd.func18, Tryd.ntmps18
          go_upto_region 1 with fail
          rw [← HW0.out]
          clear HW0
          go_quiet (fail)
          go_wp2
          go_ret
          exact ⟨by rw [HR.out]; rfl, grown_drewN hg0 _⟩
    · have HZ : Hid (actE ⟨4, s, q, d⟩ = _) := hB4
      generalize actE ⟨4, s, q, d⟩ = Z at *
      clear hB4 hA hC hB2 hE
      by_cases h2 : 4000 < n
      · have HR : Hid (Z = 1) := by show _ = _; rw [HZ.out, if_pos h2]
        have i0 : (n : Int) > 4000 := by omega
        clear HZ
        (try clear h5); (try clear h4); (try clear h3); (try clear h2); (try clear h1); (try clear hk)
        go_enter Tryd.func18, Tryd.ntmps18
        go_upto_region 1 with fail
        rw [← HW0.out]
        clear HW0
        go_quiet (fail)
        go_wp2
        go_ret
        exact ⟨by rw [HR.out]; rfl, grown_drewN hg0 _⟩
      · have g3 : ¬ (n : Int) > 4000 := by omega
        by_cases h3 : s = 0
        · have g4 : (s != 0) = false := by simp [h3]
          by_cases h5 : q = 0
          · have g5 : (q != 0) = false := by simp [h5]
            by_cases h4 : 0 < n
            · have HR : Hid (Z = 4) := by show _ = _; rw [HZ.out, if_neg h2, if_pos h3, if_pos h5, if_pos h4]
              have i0 : (n : Int) > 0 := by omega
              clear HZ
              (try clear h5); (try clear h4); (try clear h3); (try clear h2); (try clear h1); (try clear hk)
              go_enter Tryd.func18, Tryd.ntmps18
              go_upto_region 1 with fail
              rw [← HW0.out]
              clear HW0
              go_quiet (fail)
              go_wp2
              go_ret
              exact ⟨by rw [HR.out]; rfl, grown_drewN hg0 _⟩
            · have HR : Hid (Z = 0) := by show _ = _; rw [HZ.out, if_neg h2, if_pos h3, if_pos h5, if_neg h4]
              have i0 : ¬ (n : Int) > 0 := by omega
              clear HZ
              (try clear h5); (try clear h4); (try clear h3); (try clear h2); (try clear h1); (try clear hk)
              go_enter Tryd.func18, Tryd.ntmps18
              go_upto_region 1 with fail
              rw [← HW0.out]
              clear HW0
              go_quiet (fail)
              go_wp2
              go_ret
              exact ⟨by rw [HR.out]; rfl, grown_drewN hg0 _⟩
          · have g5 : (q != 0) = true := by simp [h5]
            by_cases h4 : 0 < n
            · have HR : Hid (Z = 4) := by show _ = _; rw [HZ.out, if_neg h2, if_pos h3, if_neg h5]
              have i0 : (n : Int) > 0 := by omega
              clear HZ
              (try clear h5); (try clear h4); (try clear h3); (try clear h2); (try clear h1); (try clear hk)
              go_enter Tryd.func18, Tryd.ntmps18
              go_upto_region 1 with fail
              rw [← HW0.out]
              clear HW0
              go_quiet (fail)
              go_wp2
              go_ret
              exact ⟨by rw [HR.out]; rfl, grown_drewN hg0 _⟩
            · have HR : Hid (Z = 4) := by show _ = _; rw [HZ.out, if_neg h2, if_pos h3, if_neg h5]
              have i0 : ¬ (n : Int) > 0 := by omega
              clear HZ
              (try clear h5); (try clear h4); (try clear h3); (try clear h2); (try clear h1); (try clear hk)
              go_enter Tryd.func18, Tryd.ntmps18
              go_upto_region 1 with fail
              rw [← HW0.out]
              clear HW0
              go_quiet (fail)
              go_wp2
              go_ret
              exact ⟨by rw [HR.out]; rfl, grown_drewN hg0 _⟩
        · have HR : Hid (Z = 4) := by show _ = _; rw [HZ.out, if_neg h2, if_neg h3]
          have i0 : (s != 0) = true := by simp [h3]
          clear HZ
          (try clear h5); (try clear h4); (try clear h3); (try clear h2); (try clear h1); (try clear hk)
          go_enter Tryd.func18, Tryd.ntmps18
          go_upto_region 1 with fail
          rw [← HW0.out]
          clear HW0
          go_quiet (fail)
          go_wp2
          go_ret
          exact ⟨by rw [HR.out]; rfl, grown_drewN hg0 _⟩
  · have HZ : Hid (actE ⟨K, s, q, d⟩ = 5) := hE hk
    generalize actE ⟨K, s, q, d⟩ = Z at *
    clear hA hC hB2 hB4 hE
    by_cases h1 : K < 1
    · have HR : Hid (Z = 5) := by show _ = _; rw [HZ.out]
      have i0 : K < 1 := by omega
      clear HZ
      (try clear h5); (try clear h4); (try clear h3); (try clear h2); (try clear h1); (try clear hk)
      go_enter Tryd.func18, Tryd.ntmps18
      go_upto_region 1 with fail
      rw [← HW0.out]
      clear HW0
      go_quiet (fail)
      go_wp2
      go_ret
      exact ⟨by rw [HR.out]; rfl, grown_drewN hg0 _⟩
    · have HR : Hid (Z = 5) := by show _ = _; rw [HZ.out]
      have i0 : K > 4 := by omega
      have i1 : ¬ K < 1 := by omega
      clear HZ
      (try clear h5); (try clear h4); (try clear h3); (try clear h2); (try clear h1); (try clear hk)
      go_enter Tryd.func18, Tryd.ntmps18
      go_upto_region 1 with fail
      rw [← HW0.out]
      clear HW0
      go_quiet (fail)
      go_wp2
      go_ret
      exact ⟨by rw [HR.out]; rfl, grown_drewN hg0 _⟩
end Go.Proofs.YtpefggkhjocanaaDoor
