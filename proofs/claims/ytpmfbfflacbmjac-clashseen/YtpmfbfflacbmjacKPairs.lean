/-
  The walk of canopykeep's samePairs.
-/
import Derived.Test.YtpmfbfflacbmjacPart3
import Derived.Test.YtpmfbfflacbmjacKSame
import Derived.Test.YtpmfbfflacbmjacKSamePair
import Derived.Deep.RegionWith
namespace Go.Proofs.Ytpmfbfflacbmjac
open Go.RowKit
set_option maxRecDepth 100000 in
set_option maxHeartbeats 1000000 in
theorem ksamePairs_any (w : World) (v u : Value) (l m : PL) (hv : PairsIs w v l) (hu : PairsIs w u m) (hl : l.length ≤ 140737488355328) :
    Calls Try.prog 12 #[v, u] w fun e w' => e = .returned (.bool (decide (l = m))) ∧ w.grownBy w' none := by
  obtain ⟨a, cap, rfl⟩ := hv.shape
  obtain ⟨a2, cap2, rfl⟩ := hu.shape
  by_cases hlen : l.length = m.length
  · have HL : Hid (l.length = m.length) := hlen
    rw [← hlen] at hu ⊢
    clear hlen
    go_enter Try.func12, Try.ntmps12
    go_wp2_with fail
    go_loopw [5] (fun i wr => ∃ k : Nat, k ≤ l.length ∧ i = .int .i64 (k : Int) ∧ w.grownBy wr none ∧ ∀ j, j < k → l.getD j ([], []) = m.getD j ([], [])) (fun i _ => l.length - (intOf i).toNat)
    case atStart => exact ⟨0, by omega, rfl, grown_refl _ _, fun j hj => by omega⟩
    case round =>
      obtain ⟨k, hk, rfl, hg, hsame⟩ := hrel
      have HS : Hid (∀ j, j < k → l.getD j ([], []) = m.getD j ([], [])) := hsame
      clear hsame
      by_cases hlt : k < l.length
      · obtain ⟨b, o, rfl, hat⟩ := hv.at k hlt
        obtain ⟨vk, vv, c1, c2, s1, s2⟩ := hat.grown hg
        obtain ⟨b2, o2, rfl, hat2⟩ := hu.at k (by rw [← HL.out]; exact hlt)
        obtain ⟨uk, uv, d1, d2, r1, r2⟩ := hat2.grown hg
        have SP : Hid (∀ w', wr.grownBy w' none → Calls Try.prog 31 #[.agg #[vk, vv], .agg #[uk, uv]] w' fun e w'' => e = .returned (.bool (decide (l.getD k ([], []) = m.getD k ([], [])))) ∧ w'.grownBy w'' none) :=
          fun w' hg => ksamePair_any w' _ _ _ _ ⟨vk, vv, rfl, s1.grown hg, s2.grown hg⟩ ⟨uk, uv, rfl, r1.grown hg, r2.grown hg⟩
        obtain ⟨ak, ck, rfl⟩ := s1.shape
        obtain ⟨av, cv, rfl⟩ := s2.shape
        obtain ⟨bk, dk, rfl⟩ := r1.shape
        obtain ⟨bv, dv, rfl⟩ := r2.shape
        generalize (l.getD k ([], [])).1.length = n1 at *
        generalize (l.getD k ([], [])).2.length = n2 at *
        generalize (m.getD k ([], [])).1.length = n3 at *
        generalize (m.getD k ([], [])).2.length = n4 at *
        have i2 : (k : Int) < (l.length : Int) := by omega
        clear hat hat2 hv hu s1 s2 r1 r2
        have hgd := grown_drew (grown_refl wr none)
        cases hb : decide (l.getD k ([], []) = m.getD k ([], [])) with
        | true =>
          rw [hb] at SP
          have hb2 : l.getD k ([], []) = m.getD k ([], []) := of_decide_eq_true hb
          have HB : Hid (l.getD k ([], []) = m.getD k ([], [])) := hb2
          clear hb2
          clear hb
          go_wp2_with fail
          go_region_with (go_at_call 31; refine (SP.out _ ?_).mono ?_; exact hgd; rintro e w1 ⟨rfl, hg1⟩)
          all_goals (go_wp2_with fail; go_roundw)
          case rel =>
            have hs : ∀ j, j < k + 1 → l.getD j ([], []) = m.getD j ([], []) := fun j hj => by
              by_cases hjk : j = k
              · subst hjk; exact HB.out
              · exact HS.out j (by omega)
            first
              | exact ⟨k + 1, by omega, by go_num, grown_trans (grown_trans hg hgd) hg1, hs⟩
              | ((repeat apply Exists.intro); refine ⟨⟨k + 1, by omega, ?_, grown_trans (grown_trans hg hgd) hg1, hs⟩, rfl⟩; go_num)
          case measure => simp [intOf]; omega
          case rel =>
            have hs : ∀ j, j < k + 1 → l.getD j ([], []) = m.getD j ([], []) := fun j hj => by
              by_cases hjk : j = k
              · subst hjk; exact HB.out
              · exact HS.out j (by omega)
            first
              | exact ⟨k + 1, by omega, by go_num, grown_trans (grown_trans hg hgd) hg1, hs⟩
              | ((repeat apply Exists.intro); refine ⟨⟨k + 1, by omega, ?_, grown_trans (grown_trans hg hgd) hg1, hs⟩, rfl⟩; go_num)
          case measure => simp [intOf]; omega
        | false =>
          rw [hb] at SP
          have HB : Hid (decide (l = m) = false) := decide_eq_false fun e => of_decide_eq_false hb (by rw [e])
          clear hb
          go_wp2_with fail
          go_region_with (go_at_call 31; refine (SP.out _ ?_).mono ?_; exact hgd; rintro e w1 ⟨rfl, hg1⟩)
          all_goals (go_wp2; go_ret; exact ⟨by rw [HB.out]; rfl, grown_trans (grown_trans hg hgd) hg1⟩)
      · obtain rfl : k = l.length := by omega
        have HB : Hid (decide (l = m) = true) := decide_eq_true <| List.ext_getElem HL.out fun i h1 h2 => by
          have := HS.out i h1
          simpa [h1, h2] using this
        go_wp2
        go_ret
        exact ⟨by rw [HB.out]; rfl, hg⟩
  · rw [decide_eq_false (fun e => hlen (by rw [e]))]
    have t1 : ¬ (l.length : Int) = (m.length : Int) := by omega
    go_enter Try.func12, Try.ntmps12
    go_wp2
    go_ret
    exact ⟨rfl, grown_refl _ _⟩
end Go.Proofs.Ytpmfbfflacbmjac
