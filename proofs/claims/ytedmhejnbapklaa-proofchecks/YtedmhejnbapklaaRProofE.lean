/-
  The walk of the document's answer to P4.2: ProofFault.
-/
import Derived.Test.YtedmhejnbapklaaRProofF
namespace Go.Proofs.Ytedmhejnbapklaa
open Go.RowKit
set_option maxRecDepth 100000 in
set_option maxHeartbeats 2000000 in
theorem proofFault_any (w : World) (u v : Value) (k : List UInt8) (p : Prf) (hu : SliceIs w u k) (hv : ProofIs w v p) (hf : PrfFits p) :
    Calls Try.prog 7 #[u, v] w fun e w' => e = .returned (.int .i64 (proofE k p)) ∧ w.grownBy w' none := by
  have hvv := hv
  obtain ⟨vs, vk, vv, rfl, hs, h1, h2⟩ := hv
  obtain ⟨ua, uc, rfl⟩ := hu.shape
  obtain ⟨sa, sc, rfl⟩ := hs.shape
  obtain ⟨ka, kc, rfl⟩ := h1.shape
  obtain ⟨va, vc, rfl⟩ := h2.shape
  obtain ⟨W1, hW1⟩ : ∃ W1 : World, W1 = w.alloc (.cells #[.bool p.empty, .slice sa p.steps.length sc, .slice ka p.pair.1.length kc, .slice va p.pair.2.length vc] 27) := ⟨_, rfl⟩
  have hgW : w.grownBy W1 none := by rw [hW1]; exact World.grownBy_alloc _ _ _
  have HW1 : Hid (W1 = w.alloc (.cells #[.bool p.empty, .slice sa p.steps.length sc, .slice ka p.pair.1.length kc, .slice va p.pair.2.length vc] 27)) := hW1
  have bP : W1.heap[w.heap.size]? = some (.cells #[.bool p.empty, .slice sa p.steps.length sc, .slice ka p.pair.1.length kc, .slice va p.pair.2.length vc] 27) := by rw [hW1]; exact heap_alloc_new w _
  obtain ⟨⟨a0, a1, a2, a3⟩, _⟩ := quad_room (grown_refl W1 none) bP
  have KF : Hid (Calls Try.prog 14 #[.slice ua k.length uc] W1 fun e w' => e = .returned (.int .i64 (keyFaultF k.length)) ∧ w' = W1) := keyFault_any W1 ua k.length uc
  by_cases hk : keyFaultF k.length = 0
  · have hkk : 1 ≤ k.length ∧ k.length ≤ 16 := (keyFault_iff _).1 hk
    have PM : Hid (Calls Try.prog 15 #[.slice ua k.length uc, .agg #[.bool p.empty, .slice sa p.steps.length sc, .slice ka p.pair.1.length kc, .slice va p.pair.2.length vc]] W1 fun e w' => ∃ z : Bool, e = .returned (.bool z) ∧ (z = true ↔ May k p) ∧ W1.grownBy w' none) :=
      proofMay_any W1 _ _ k p (hu.grown hgW) (hvv.grown hgW) hkk hf
    have E1 : Hid (May k p → proofE k p = 0) := fun hm => proofE_may hk hm
    have E2 : Hid (¬May k p → proofE k p = 4) := fun hm => proofE_not hk hm
    rw [hk] at KF
    generalize proofE k p = PE at *
    generalize May k p = MP at *
    generalize p.steps.length = ns at *
    generalize p.pair.1.length = nk at *
    generalize p.pair.2.length = nv at *
    generalize p.empty = pe at *
    clear hs h1 h2 hu hf hvv hW1 bP hk hkk
    go_enter Try.func7, Try.ntmps7
    go_wp2_with fail
    rw [← HW1.out]
    refine KF.out.mono ?_
    rintro e w1 ⟨rfl, rfl⟩
    go_wp2_with fail
    refine PM.out.mono ?_
    rintro e w2 ⟨z, rfl, hz, hg2⟩
    cases z with
    | true =>
      have he : PE = 0 := E1.out (hz.1 rfl)
      clear hz
      subst he
      go_wp2
      go_ret
      exact ⟨rfl, grown_trans hgW hg2⟩
    | false =>
      have he : PE = 4 := E2.out (fun h => by have := hz.2 h; cases this)
      clear hz
      subst he
      go_wp2
      go_ret
      exact ⟨rfl, grown_trans hgW hg2⟩
  · have he : Hid (proofE k p = keyFaultF k.length) := proofE_key hk
    generalize proofE k p = PE at *
    generalize keyFaultF k.length = KE at *
    generalize p.steps.length = ns at *
    generalize p.pair.1.length = nk at *
    generalize p.pair.2.length = nv at *
    generalize p.empty = pe at *
    have t1 : (KE == 0) = false := by rw [beq_eq_false_iff_ne]; exact hk
    clear hs h1 h2 hu hf hvv hW1 bP
    go_enter Try.func7, Try.ntmps7
    go_wp2_with fail
    rw [← HW1.out]
    refine KF.out.mono ?_
    rintro e w1 ⟨rfl, rfl⟩
    go_wp2
    go_ret
    refine ⟨?_, hgW⟩
    rw [he.out]
    rfl
end Go.Proofs.Ytedmhejnbapklaa
