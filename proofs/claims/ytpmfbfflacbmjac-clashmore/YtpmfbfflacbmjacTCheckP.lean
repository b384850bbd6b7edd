/-
  tree.Check, as it landed, keeps P3.1.
-/
import Derived.Test.YtpmfbfflacbmjacTPairP
import Derived.Test.YtpmfbfflacbmjacCmpB
import Derived.Test.YtpmfbfflacbmjacPart3
namespace Go.Proofs.Ytpmfbfflacbmjac
open Go.RowKit
set_option maxRecDepth 100000 in
set_option maxHeartbeats 1000000 in
theorem tcheck_ok : TCheckOK := by
  intro w v l hv hl
  obtain ⟨a, cap, rfl⟩ := hv.shape
  have hll := hl.len
  by_cases h60 : 60 < l.length
  · rw [pairsFault_long l h60]
    have t1 : (l.length : Int) > 60 := by omega
    go_enter Try.func58, Try.ntmps58
    go_wp2
    go_ret
    exact ⟨rfl, grown_refl _ _⟩
  · have t1 : ¬ (l.length : Int) > 60 := by omega
    go_enter Try.func58, Try.ntmps58
    go_wp2_with fail
    go_loopw [11] (fun i wr => ∃ m : Nat, m ≤ l.length ∧ i = .int .i64 (m : Int) ∧ w.grownBy wr none ∧ ∀ j, j < m → faultAt l j = 0) (fun i _ => l.length - (intOf i).toNat)
    case atStart => exact ⟨0, by omega, rfl, grown_refl _ _, fun j hj => by omega⟩
    case round =>
      obtain ⟨m, hm, rfl, hgr, hok⟩ := hrel
      have HOK : Hid (∀ j, j < m → faultAt l j = 0) := hok
      clear hok
      by_cases hlt : m < l.length
      · obtain ⟨b, o, rfl, hat⟩ := hv.at m hlt
        obtain ⟨vk, vv, c1, c2, s1, s2⟩ := hat.grown hgr
        generalize hP : l.getD m ([], []) = P at s1 s2
        have HA : Hid (faultAt l m = if pairFaultF P = 0 then (if 0 < m ∧ klt (l.getD (m - 1) ([], [])).1 P.1 = false then 3 else 0) else pairFaultF P) := by
          show _ = _
          unfold faultAt
          rw [hP]
        obtain ⟨ak, ck, rfl, hck, hrk⟩ := s1
        obtain ⟨av, cv, rfl, hcv, hrv⟩ := s2
        have s1 : SliceIs wr (.slice ak P.1.length ck) P.1 := ⟨ak, ck, rfl, hck, hrk⟩
        clear hrk hrv hat hP
        have i1 : (m : Int) < (l.length : Int) := by omega
        go_wp2_with fail
        have hga : wr.grownBy (wr.alloc (.cells #[.slice ak P.1.length ck, .slice av P.2.length cv] 80)) none := World.grownBy_alloc _ _ _
        refine (checkPair_any _ _ _ P _ _).mono ?_
        rintro e w1 ⟨rfl, hg1⟩
        have hg2 := grown_trans hga hg1
        obtain ⟨cA, _, _, _⟩ := pair_room hg1 (heap_alloc_new wr (.cells #[.slice ak P.1.length ck, .slice av P.2.length cv] 80))
        by_cases hf : pairFaultF P = 0
        · rw [hf]
          have s1 := s1.grown hg2
          have hgw := grown_trans hgr hg2
          clear c1 c2
          by_cases h0 : m = 0
          · subst h0
            have HZ : Hid (faultAt l 0 = 0) := by show _ = _; rw [HA.out, if_pos hf, if_neg (by simp)]
            go_wp2_with fail
            go_quiet (fail)
            all_goals go_wp2_with fail
            go_roundw
            case rel =>
              have hs : ∀ j, j < 0 + 1 → faultAt l j = 0 := fun j hj => by
                obtain rfl : j = 0 := by omega
                exact HZ.out
              exact ⟨1, by omega, rfl, grown_drewN hgw _, hs⟩
            case measure => simp [intOf]; omega
          · obtain ⟨n, rfl⟩ : ∃ n, m = n + 1 := ⟨m - 1, by omega⟩
            obtain ⟨b2, o2, e, hat⟩ := hv.at n (by omega)
            cases e
            obtain ⟨qk, qv, d1, d2, r1, r2⟩ := hat.grown hgw
            clear d2 r2 hat
            have HA2 : Hid (faultAt l (n + 1) = if klt (l.getD n ([], [])).1 P.1 = false then 3 else 0) := by
              show _ = _
              rw [HA.out, if_pos hf]
              simp
            generalize (l.getD n ([], [])).1 = q at *
            have i0 : IntKind.i64.wrap (n : Int) = (n : Int) := by rw [IntKind.wrap_i64]; omega
            have R1 : Hid (SliceIs w1 qk q) := r1
            have S1 : Hid (SliceIs w1 (.slice ak P.1.length ck) P.1) := s1
            have i2 : (n : Int) < (l.length : Int) := by omega
            have i3 : ((n + 1 : Nat) : Int) > 0 := by omega
            have hcr := cmpF_neg q P.1
            have CM : Hid (∀ k, Calls Try.prog 52 #[qk, .slice ak P.1.length ck] (w1.drewN k) fun e w' => e = .returned (.int .i64 (cmpF q P.1)) ∧ w' = w1.drewN k) := fun k => compare_any _ _ _ _ _ (R1.out.drewN k) (S1.out.drewN k)
            generalize cmpF q P.1 = z at *
            have HCR : Hid (decide (z < 0) = klt q P.1) := hcr
            clear s1 r1 hcr
            go_wp2_with fail
            go_quiet (first | (go_at_call 52; exact Calls.quiet_of_same (CM.out _)))
            cases hk : klt q P.1 with
            | true =>
              have HZ : Hid (faultAt l (n + 1) = 0) := by show _ = _; rw [HA2.out, hk]; simp
              have hz : z < 0 := by have := HCR.out; rw [hk] at this; simpa using this
              clear hk
              go_wp2_with fail
              go_roundw
              case rel =>
                have hs : ∀ j, j < n + 1 + 1 → faultAt l j = 0 := fun j hj => by
                  by_cases hjm : j = n + 1
                  · subst hjm; exact HZ.out
                  · exact HOK.out j (by omega)
                first
                  | exact ⟨n + 1 + 1, by omega, by go_num, grown_drewN hgw _, hs⟩
                  | ((repeat apply Exists.intro); refine ⟨⟨n + 1 + 1, by omega, ?_, grown_drewN hgw _, hs⟩, rfl⟩; go_num)
              case measure => simp [intOf]; omega
            | false =>
              have HZ : Hid (pairsFaultF l = 3) := by
                have e : faultAt l (n + 1) = 3 := by rw [HA2.out, hk]; simp
                show _ = _
                rw [← e]
                exact pairsFault_at l (n + 1) hlt (by omega) HOK.out (by rw [e]; decide)
              have hz : 0 ≤ z := by have := HCR.out; rw [hk] at this; simpa using this
              clear hk
              go_wp2
              go_ret
              exact ⟨by rw [HZ.out]; rfl, grown_drewN hgw _⟩
        · have HF : Hid (pairsFaultF l = pairFaultF P) := by
            have e : faultAt l m = pairFaultF P := by rw [HA.out, if_neg hf]
            show _ = _
            rw [← e]
            exact pairsFault_at l m hlt (by omega) HOK.out (by rw [e]; exact hf)
          generalize pairFaultF P = z at *
          have hz : (z != 0) = true := by simpa using hf
          go_wp2
          go_ret
          exact ⟨by rw [HF.out]; rfl, grown_trans hgr hg2⟩
      · obtain rfl : m = l.length := by omega
        have HP : Hid (pairsFaultF l = 0) := pairsFault_none l (by omega) HOK.out
        go_wp2
        go_ret
        exact ⟨by rw [HP.out]; rfl, hgr⟩
end Go.Proofs.Ytpmfbfflacbmjac
