/-
  The walk of canopylaw.ProofChecks, over what the code must keep.
-/
import Derived.Test.YtedmhejnbapklaaPCCheck
import Derived.Test.YtedmhejnbapklaaLSameProof
import Derived.Test.YtedmhejnbapklaaRProofE
import Derived.Test.YtedmhejnbapklaaOctets
import Derived.Deep.RegionHeld3
import Derived.Deep.RegionWith
import Derived.Handy
namespace Go.Proofs.Ytedmhejnbapklaa
open Go.RowKit
theorem ProofIs.aggShape {w : World} {v : Value} {p : Prf} (h : ProofIs w v p) : ∃ sa sc ka kc va vc, v = .agg #[.bool p.empty, .slice sa p.steps.length sc, .slice ka p.pair.1.length kc, .slice va p.pair.2.length vc] := by
  obtain ⟨vs, vk, vv, rfl, hs, h1, h2⟩ := h
  obtain ⟨sa, sc, rfl⟩ := hs.shape
  obtain ⟨ka, kc, rfl⟩ := h1.shape
  obtain ⟨va, vc, rfl⟩ := h2.shape
  exact ⟨sa, sc, ka, kc, va, vc, rfl⟩
set_option maxRecDepth 100000 in
set_option maxHeartbeats 2000000 in
theorem proofChecks_walk (hC : PCheckOK) (w : World) (u v : Value) (k : List UInt8) (p : Prf) (hu : SliceIs w u k) (hv : ProofIs w v p) (hk : k.length ≤ 140737488355328) (hf : PrfFits p) :
    Calls Try.prog 3 #[u, v] w fun e w' => e = .returned (.bool true) ∧ w.grownBy w' none := by
  obtain ⟨sa, sc, ka, kc, va, vc, rfl⟩ := hv.aggShape
  obtain ⟨ua, uc, rfl⟩ := hu.shape
  obtain ⟨P, hP⟩ : ∃ P : Value, P = .agg #[.bool p.empty, .slice sa p.steps.length sc, .slice ka p.pair.1.length kc, .slice va p.pair.2.length vc] := ⟨_, rfl⟩
  obtain ⟨W1, hW1⟩ : ∃ W1 : World, W1 = w.alloc (.cells #[.bool p.empty, .slice sa p.steps.length sc, .slice ka p.pair.1.length kc, .slice va p.pair.2.length vc] 27) := ⟨_, rfl⟩
  have hgW : w.grownBy W1 none := by rw [hW1]; exact World.grownBy_alloc _ _ _
  have HW1 : Hid (W1 = w.alloc (.cells #[.bool p.empty, .slice sa p.steps.length sc, .slice ka p.pair.1.length kc, .slice va p.pair.2.length vc] 27)) := hW1
  have bP : W1.heap[w.heap.size]? = some (.cells #[.bool p.empty, .slice sa p.steps.length sc, .slice ka p.pair.1.length kc, .slice va p.pair.2.length vc] 27) := by rw [hW1]; exact heap_alloc_new w _
  obtain ⟨⟨a0, a1, a2, a3⟩, _⟩ := quad_room (grown_refl W1 none) bP
  have P1 : Hid (Calls Try.prog 4 #[.agg #[.bool p.empty, .slice sa p.steps.length sc, .slice ka p.pair.1.length kc, .slice va p.pair.2.length vc]] W1 fun e w' => ∃ x, e = .returned x ∧ ProofIs w' x p ∧ W1.grownBy w' none) := proofs_any W1 _ p (hv.grown hgW) hf
  have OC : Hid (∀ w', W1.grownBy w' none → Calls Try.prog 6 #[.slice ua k.length uc] w' fun e w'' => ∃ v', e = .returned v' ∧ Own w'.heap.size w'' v' k ∧ w'.grownBy w'' none) := fun w' hg => octets_any w' _ k ((hu.grown hgW).grown hg) hk
  have CK : Hid (∀ (w' : World) (x y : Value), SliceIs w' x k → ProofIs w' y p → Calls Try.prog 5 #[x, y] w' fun e w'' => e = .returned (.int .i64 (proofE k p)) ∧ w'.grownBy w'' none) := fun w' x y h1 h2 => hC w' x y k p h1 h2 hf
  have PF : Hid (∀ w', W1.grownBy w' none → Calls Try.prog 7 #[.slice ua k.length uc, .agg #[.bool p.empty, .slice sa p.steps.length sc, .slice ka p.pair.1.length kc, .slice va p.pair.2.length vc]] w' fun e w'' => e = .returned (.int .i64 (proofE k p)) ∧ w'.grownBy w'' none) := fun w' hg => proofFault_any w' _ _ k p ((hu.grown hgW).grown hg) ((hv.grown hgW).grown hg) hf
  have SP : Hid (∀ (w' : World) (y : Value), W1.grownBy w' none → ProofIs w' y p → Calls Try.prog 8 #[y, .agg #[.bool p.empty, .slice sa p.steps.length sc, .slice ka p.pair.1.length kc, .slice va p.pair.2.length vc]] w' fun e w'' => e = .returned (.bool true) ∧ w'.grownBy w'' none) := fun w' y hg hy => sameProof_same w' _ _ p hy ((hv.grown hgW).grown hg) (by have := hf.1; omega)
  have SH : Hid (∀ (w' : World) (y : Value), ProofIs w' y p → ∃ sa sc ka kc va vc, y = .agg #[.bool p.empty, .slice sa p.steps.length sc, .slice ka p.pair.1.length kc, .slice va p.pair.2.length vc]) := fun w' y h => h.aggShape
  have GR : Hid (∀ (w' w'' : World) (y : Value), ProofIs w' y p → w'.grownBy w'' none → ProofIs w'' y p) := fun _ _ _ h hg => h.grown hg
  generalize proofE k p = PE at *
  generalize k.length = nu at *
  generalize p.steps.length = ns at *
  generalize p.pair.1.length = nk at *
  generalize p.pair.2.length = nv at *
  generalize p.empty = pe at *
  clear hP P hv hu hC hf hW1 bP hk
  go_enter Try.func3, Try.ntmps3
  go_wp2_with fail
  rw [← HW1.out]
  refine P1.out.mono ?_
  rintro e w1 ⟨x, rfl, hx, hg1⟩
  obtain ⟨xa, xc, ya, yc, za, zc, rfl⟩ := SH.out _ _ hx
  have HX1 : Hid (ProofIs w1 (.agg #[.bool pe, .slice xa ns xc, .slice ya nk yc, .slice za nv zc]) p) := hx
  clear hx P1
  obtain ⟨W2, hW2⟩ : ∃ W2 : World, W2 = w1.alloc (.cells #[.bool pe, .slice xa ns xc, .slice ya nk yc, .slice za nv zc] 27) := ⟨_, rfl⟩
  have hg2 : w1.grownBy W2 none := by rw [hW2]; exact World.grownBy_alloc _ _ _
  have HW2 : Hid (W2 = w1.alloc (.cells #[.bool pe, .slice xa ns xc, .slice ya nk yc, .slice za nv zc] 27)) := hW2
  have bQ : W2.heap[w1.heap.size]? = some (.cells #[.bool pe, .slice xa ns xc, .slice ya nk yc, .slice za nv zc] 27) := by rw [hW2]; exact heap_alloc_new w1 _
  obtain ⟨⟨b0, b1, b2, b3⟩, _⟩ := quad_room (grown_refl W2 none) bQ
  have hg12 := grown_trans hg1 hg2
  have HX2 : Hid (ProofIs W2 (.agg #[.bool pe, .slice xa ns xc, .slice ya nk yc, .slice za nv zc]) p) := GR.out _ _ _ HX1.out hg2
  clear hW2 bQ HX1
  go_upto_region 2 with fail
  rw [← HW2.out]
  go_cut [6] from 8 (fun s6 wx => s6 = .int .i64 PE ∧ W2.grownBy wx none)
  case first =>
    have hgd := grown_drew (grown_refl W2 none)
    have c0 := hgd.cell b0 (by simp)
    have c1 := hgd.cell b1 (by simp)
    have c2 := hgd.cell b2 (by simp)
    have c3 := hgd.cell b3 (by simp)
    go_region_held3 (fun w' => w'.cell? ⟨w1.heap.size, 0, none⟩ = some (.bool pe) ∧ w'.cell? ⟨w1.heap.size, 1, none⟩ = some (.slice xa ns xc) ∧ w'.cell? ⟨w1.heap.size, 2, none⟩ = some (.slice ya nk yc) ∧ w'.cell? ⟨w1.heap.size, 3, none⟩ = some (.slice za nv zc))
      (first | with_reducible exact ⟨c0, c1, c2, c3⟩ | with_reducible exact ⟨f0, f1, f2, f3⟩ | with_reducible exact ⟨g0, g1, g2, g3⟩)
      (first
        | (go_at_call 6; refine (OC.out _ (grown_trans hg12 hgd)).mono ?_
           rintro e w3 ⟨v3, rfl, ho3, hg3⟩
           have hgk : W2.grownBy w3 none := grown_trans hgd hg3
           have f0 := hgk.cell b0 (by simp)
           have f1 := hgk.cell b1 (by simp)
           have f2 := hgk.cell b2 (by simp)
           have f3 := hgk.cell b3 (by simp)
           obtain ⟨oa, oc, rfl⟩ := ho3.shape)
        | (go_at_call 5; refine (CK.out _ _ _ ho3.slice (GR.out _ _ _ HX2.out hgk)).mono ?_
           rintro e w4 ⟨rfl, hg4⟩
           have g0 := hg4.cell f0 (by simp)
           have g1 := hg4.cell f1 (by simp)
           have g2 := hg4.cell f2 (by simp)
           have g3 := hg4.cell f3 (by simp)))
    all_goals (go_wp2_with fail; go_meet; case rel => exact ⟨rfl, grown_trans hgk hg4⟩)
  case rest =>
    obtain ⟨rfl, hgx⟩ := hcut
    have d0 := (grown_trans hg12 hgx).cell a0 (by simp)
    have d1 := (grown_trans hg12 hgx).cell a1 (by simp)
    have d2 := (grown_trans hg12 hgx).cell a2 (by simp)
    have d3 := (grown_trans hg12 hgx).cell a3 (by simp)
    have e0 := hgx.cell b0 (by simp)
    have e1 := hgx.cell b1 (by simp)
    have e2 := hgx.cell b2 (by simp)
    have e3 := hgx.cell b3 (by simp)
    clear OC CK
    go_wp2_with fail
    refine (PF.out _ (grown_trans hg12 hgx)).mono ?_
    rintro e w5 ⟨rfl, hg5⟩
    have r0 := hg5.cell d0 (by simp)
    have r1 := hg5.cell d1 (by simp)
    have r2 := hg5.cell d2 (by simp)
    have r3 := hg5.cell d3 (by simp)
    have s0 := hg5.cell e0 (by simp)
    have s1 := hg5.cell e1 (by simp)
    have s2 := hg5.cell e2 (by simp)
    have s3 := hg5.cell e3 (by simp)
    have hEE : (PE == PE) = true := by simp
    have hg15 := grown_trans (grown_trans hg12 hgx) hg5
    have HX5 := GR.out _ _ _ HX2.out (grown_trans hgx hg5)
    go_wp2_with fail
    refine (SP.out _ _ hg15 HX5).mono ?_
    rintro e w6 ⟨rfl, hg6⟩
    go_wp2
    go_ret
    exact ⟨rfl, grown_trans hgW (grown_trans hg15 hg6)⟩
end Go.Proofs.Ytedmhejnbapklaa
