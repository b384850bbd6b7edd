/-
  The walk of canopylaw.sameProof, at two proofs that are the same.
-/
import Derived.Test.YtedmhejnbapklaaLProofs
namespace Go.Proofs.Ytedmhejnbapklaa
open Go.RowKit
set_option maxRecDepth 100000 in
set_option maxHeartbeats 2000000 in
theorem sameProof_same (w : World) (v u : Value) (p : Prf) (hv : ProofIs w v p) (hu : ProofIs w u p) (hl : p.steps.length ≤ 140737488355328) :
    Calls Try.prog 8 #[v, u] w fun e w' => e = .returned (.bool true) ∧ w.grownBy w' none := by
  obtain ⟨vs, vk, vv, rfl, hs, h1, h2⟩ := hv
  obtain ⟨us, uk, uv, rfl, ks, k1, k2⟩ := hu
  obtain ⟨sa, sc, rfl⟩ := hs.shape
  obtain ⟨ka, kc, rfl⟩ := h1.shape
  obtain ⟨va, vc, rfl⟩ := h2.shape
  obtain ⟨ta, tc, rfl⟩ := ks.shape
  obtain ⟨la, lc, rfl⟩ := k1.shape
  obtain ⟨ma, mc, rfl⟩ := k2.shape
  obtain ⟨W1, hW1⟩ : ∃ W1 : World, W1 = (w.alloc (.cells #[.bool p.empty, .slice sa p.steps.length sc, .slice ka p.pair.1.length kc, .slice va p.pair.2.length vc] 27)).alloc (.cells #[.bool p.empty, .slice ta p.steps.length tc, .slice la p.pair.1.length lc, .slice ma p.pair.2.length mc] 27) := ⟨_, rfl⟩
  have hgW : w.grownBy W1 none := by rw [hW1]; exact grown_alloc (World.grownBy_alloc _ _ _) _
  have HW1 : Hid (W1 = (w.alloc (.cells #[.bool p.empty, .slice sa p.steps.length sc, .slice ka p.pair.1.length kc, .slice va p.pair.2.length vc] 27)).alloc (.cells #[.bool p.empty, .slice ta p.steps.length tc, .slice la p.pair.1.length lc, .slice ma p.pair.2.length mc] 27)) := hW1
  have bP : W1.heap[w.heap.size]? = some (.cells #[.bool p.empty, .slice sa p.steps.length sc, .slice ka p.pair.1.length kc, .slice va p.pair.2.length vc] 27) := by
    rw [hW1]; exact pair_old (World.grownBy_alloc _ _ _) (heap_alloc_new w _)
  have bQ : W1.heap[w.heap.size + 1]? = some (.cells #[.bool p.empty, .slice ta p.steps.length tc, .slice la p.pair.1.length lc, .slice ma p.pair.2.length mc] 27) := by
    have := heap_alloc_new (w.alloc (.cells #[.bool p.empty, .slice sa p.steps.length sc, .slice ka p.pair.1.length kc, .slice va p.pair.2.length vc] 27)) (.cells #[.bool p.empty, .slice ta p.steps.length tc, .slice la p.pair.1.length lc, .slice ma p.pair.2.length mc] 27)
    rw [World.size_alloc] at this
    rw [hW1]; exact this
  obtain ⟨⟨a0, a1, a2, a3⟩, _⟩ := quad_room (grown_refl W1 none) bP
  obtain ⟨⟨b0, b1, b2, b3⟩, _⟩ := quad_room (grown_refl W1 none) bQ
  have SP : Hid (Calls Try.prog 16 #[.agg #[.slice ka p.pair.1.length kc, .slice va p.pair.2.length vc], .agg #[.slice la p.pair.1.length lc, .slice ma p.pair.2.length mc]] W1 fun e w' => e = .returned (.bool true) ∧ W1.grownBy w' none) := by
    have := samePair_any W1 _ _ p.pair p.pair ⟨_, _, rfl, h1.grown hgW, h2.grown hgW⟩ ⟨_, _, rfl, k1.grown hgW, k2.grown hgW⟩
    rw [decide_eq_true rfl] at this
    exact this
  have HS : Hid (StepsIs W1 (.slice sa p.steps.length sc) p.steps) := hs.grown hgW
  have KS : Hid (StepsIs W1 (.slice ta p.steps.length tc) p.steps) := ks.grown hgW
  have heq : (p.empty != p.empty) = false := by simp
  generalize p.steps = S at *
  generalize p.empty = E at *
  generalize p.pair.1.length = n1 at *
  generalize p.pair.2.length = n2 at *
  clear hs h1 h2 ks k1 k2 hW1 bP bQ
  go_enter Try.func8, Try.ntmps8
  go_wp2_with fail
  rw [← HW1.out]
  refine SP.out.mono ?_
  rintro e w1 ⟨rfl, hg1⟩
  have c1 := hg1.cell a1 (by simp)
  have d1 := hg1.cell b1 (by simp)
  have hgw1 := grown_trans hgW hg1
  have HS1 : Hid (StepsIs w1 (.slice sa S.length sc) S) := HS.out.grown hg1
  have KS1 : Hid (StepsIs w1 (.slice ta S.length tc) S) := KS.out.grown hg1
  clear a0 a1 a2 a3 b0 b1 b2 b3 SP HS KS
  go_wp2_with fail
  go_loopw [5] (fun i wr => ∃ k : Nat, k ≤ S.length ∧ i = .int .i64 (k : Int) ∧ w1.grownBy wr none) (fun i _ => S.length - (intOf i).toNat)
  case atStart => exact ⟨0, by omega, rfl, grown_refl _ _⟩
  case round =>
    obtain ⟨k, hk, rfl, hg⟩ := hrel
    have e1 := hg.cell c1 (by simp)
    have e2 := hg.cell d1 (by simp)
    by_cases hlt : k < S.length
    · have t1 : (k : Int) < (S.length : Int) := by omega
      obtain ⟨b, o, rfl, hat⟩ := HS1.out.at k hlt
      obtain ⟨vo, x1, x2, x3, s1⟩ := hat.grown hg
      obtain ⟨b', o', rfl, hat'⟩ := KS1.out.at k hlt
      obtain ⟨uo, y1, y2, y3, s2⟩ := hat'.grown hg
      have SB : Hid (∀ w', wr.grownBy w' none → Calls Try.prog 17 #[vo, uo] w' fun e w'' => e = .returned (.bool true) ∧ w'' = w') := fun w' hg' => by
        have := sameBytes_any w' _ _ _ _ (s1.grown hg') (s2.grown hg')
        rw [decide_eq_true rfl] at this
        exact this
      obtain ⟨oa, oc, rfl⟩ := s1.shape
      obtain ⟨oa', oc', rfl⟩ := s2.shape
      generalize (S.getD k noStp).other.length = n3 at *
      generalize (S.getD k noStp).bit = bt at *
      generalize (S.getD k noStp).right = rg at *
      have hgd := grown_drew (grown_refl wr none)
      clear hat hat' s1 s2
      go_wp2_with fail
      go_quiet (first | (go_at_call 17; refine Calls.quiet_of_same (SB.out _ ?_); exact ⟨rfl, rfl, rfl, Nat.le_refl _, fun _ _ _ => rfl⟩))
      go_wp2_with fail
      go_roundw
      case rel =>
        first
          | exact ⟨k + 1, by omega, by go_num, grown_drewN hg _⟩
          | ((repeat apply Exists.intro); refine ⟨⟨k + 1, by omega, ?_, grown_drewN hg _⟩, rfl⟩; go_num)
      case measure => simp [intOf]; omega
    · obtain rfl : k = S.length := by omega
      go_wp2
      go_ret
      exact ⟨rfl, grown_trans hgw1 hg⟩
end Go.Proofs.Ytedmhejnbapklaa
