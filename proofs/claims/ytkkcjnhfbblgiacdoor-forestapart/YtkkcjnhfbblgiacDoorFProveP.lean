/-
  forest.Prove, as it landed, keeps P5.6.
-/
import Derived.Test.YtkkcjnhfbblgiacDoorPart13
import Derived.Test.YtkkcjnhfbblgiacDoorPart9
import Derived.Test.YtkkcjnhfbblgiacDoorPProveP
import Derived.Test.YtkkcjnhfbblgiacDoorProofBut
import Derived.Test.YtkkcjnhfbblgiacDoorPart14
namespace Go.Proofs.YtkkcjnhfbblgiacDoor
open Go.RowKit
set_option maxRecDepth 100000 in
set_option maxHeartbeats 2000000 in
theorem fprove_ok' : FProveOK := by
  intro w v r u l n k hv hr hu hl hnl hkl ht
  obtain ⟨W0, hW0⟩ : ∃ W0 : World, W0 = (w.alloc (.cells #[.bool false, .slice none 0 0, .slice none 0 0, .slice none 0 0] 38)).alloc (.cells #[.bool false, .slice none 0 0, .slice none 0 0, .slice none 0 0] 38) := ⟨_, rfl⟩
  have HW0 : Hid (W0 = (w.alloc (.cells #[.bool false, .slice none 0 0, .slice none 0 0, .slice none 0 0] 38)).alloc (.cells #[.bool false, .slice none 0 0, .slice none 0 0, .slice none 0 0] 38)) := hW0
  have hgW : w.grownBy W0 none := by rw [hW0]; exact grown_alloc (World.grownBy_alloc _ _ _) _
  have BO : Hid (W0.heap[w.heap.size]? = some (.cells #[.bool false, .slice none 0 0, .slice none 0 0, .slice none 0 0] 38)) := by
    show _ = _
    rw [hW0, (World.grownBy_alloc _ _ none).block _ (by simp) (by simp)]; exact heap_alloc_new w _
  have BI : Hid (W0.heap[w.heap.size + 1]? = some (.cells #[.bool false, .slice none 0 0, .slice none 0 0, .slice none 0 0] 38)) := by
    have := heap_alloc_new (w.alloc (.cells #[.bool false, .slice none 0 0, .slice none 0 0, .slice none 0 0] 38)) (.cells #[.bool false, .slice none 0 0, .slice none 0 0, .slice none 0 0] 38)
    rw [World.size_alloc] at this
    show _ = _
    rw [hW0]; exact this
  have CP : Hid (Calls Tryd.prog 22 #[v, r] W0 fun e w' => ∃ x, e = .returned (.tuple #[x, .int .i64 (fnE l n)]) ∧ (fnE l n = 0 → PairsIs w' x (ofF l n)) ∧ (∃ a n c, x = .slice a n c) ∧ W0.grownBy w' none) := checkedPairs_any W0 v r l n (hv.grown hgW) (hr.grown hgW) hl
  obtain ⟨O, hO⟩ : ∃ O, O = w.heap.size := ⟨_, rfl⟩
  rw [← hO] at BO BI
  have hOw : w.heap.size ≤ O := by omega
  have hIw : w.heap.size ≤ O + 1 := by omega
  have HSZ : Hid (w.heap.size = O) := hO.symm
  clear hO hW0
  by_cases hE : fnE l n = 0
  · obtain ⟨hF, hN⟩ := fnE_forest hE
    have hT := of_tree hF n
    have hR := roots_tree hF
    rw [hE] at CP
    have PI : Hid (∀ w' x, w.grownBy w' none → PairsIs w' x (ofF l n) → Calls Tryd.prog 23 #[x, u] w' fun e w'' => ∃ y, e = .returned (.tuple #[y, .int .i64 (keyFaultF k.length)]) ∧ ProofIs w'' y (finnerF l n k) ∧ w'.grownBy w'' none) := fun w' x hg hx => by
      have := pprove_ok w' x u _ k hx (hu.grown hg) hT.fits (ht.grownNone hg)
      have e1 : getE (ofF l n) k = keyFaultF k.length := by rw [getE, if_pos ((tree_iff _).2 hT)]
      have e2 : fproveE l n k = keyFaultF k.length := by rw [fproveE, if_pos hE]
      have e3 : proveF (ofF l n) k = finnerF l n k := by rw [proveF, finnerF, e1, e2]
      rw [e1, e3] at this
      refine this.mono ?_
      rintro e w'' ⟨y, rfl, hy, hg'⟩
      exact ⟨y, rfl, hy.is, hg'⟩
    have RP : Hid (∀ w', w.grownBy w' none → Calls Tryd.prog 21 #[v] w' fun e w'' => ∃ x, e = .returned (.tuple #[x, .int .i64 0]) ∧ PairsIs w'' x (rootsF l) ∧ w'.grownBy w'' none) := fun w' hg => rootPairs_any w' v l (hv.grown hg) hF (ht.grownNone hg)
    obtain ⟨va, vc, rfl⟩ := hv.shape
    obtain ⟨ra, rc, rfl⟩ := hr.shape
    obtain ⟨ua, uc, rfl⟩ := hu.shape
    by_cases hK : keyFaultF k.length = 0
    · have e2 : fproveE l n k = 0 := by rw [fproveE, if_pos hE, hK]
      have PO : Hid (∀ w' x, w.grownBy w' none → PairsIs w' x (rootsF l) → Calls Tryd.prog 23 #[x, .slice ra n.length rc] w' fun e w'' => ∃ y, e = .returned (.tuple #[y, .int .i64 0]) ∧ ProofIs w'' y (fouterF l n k) ∧ w'.grownBy w'' none) := fun w' x hg hx => by
        have := pprove_ok w' x _ _ n hx (hr.grown hg) hR.fits (ht.grownNone hg)
        have e1 := getE_ok hR ⟨hN.1, by omega⟩
        have e3 : proveF (rootsF l) n = fouterF l n k := by rw [proveF, if_pos e1, fouterF, if_pos e2]
        rw [e1, e3] at this
        refine this.mono ?_
        rintro e w'' ⟨y, rfl, hy, hg'⟩
        exact ⟨y, rfl, hy.is, hg'⟩
      rw [e2]
      rw [hK] at PI
      generalize fouterF l n k = PO' at *
      generalize finnerF l n k = PI' at *
      generalize rootsF l = RT at *
      generalize ofF l n = M at *
      clear hE hF hN hT hR hv hr hu hl hnl hkl ht hK e2
      go_enter Tryd.func9, Tryd.ntmps9
      go_wp2_with fail
      rw [← HW0.out, HSZ.out]
      refine CP.out.mono ?_
      rintro e w1 ⟨x, rfl, hx, ⟨xa, xn, xc, rfl⟩, hg1⟩
      have HX : Hid (PairsIs w1 (.slice xa xn xc) M) := hx trivial
      have hg01 := grown_trans hgW hg1
      clear hx
      go_wp2_with fail
      refine (PI.out _ _ hg01 HX.out).mono ?_
      rintro e w2 ⟨y, rfl, hy, hg2⟩
      obtain ⟨sa, sc, ka, kc, qa, qc, rfl⟩ := hy.agg
      have hg12 := grown_trans hg1 hg2
      have hg02 := grown_trans hgW hg12
      obtain ⟨⟨i0, i1, i2, i3⟩, j0, j1, j2, j3, hbI⟩ := quad_room hg12 BI.out
      obtain ⟨_, _, _, _, _, hbO⟩ := quad_room hg12 BO.out
      obtain ⟨W3, hW3⟩ : ∃ W3 : World, W3 = ((((w2.setCell ⟨O + 1, 0, none⟩ (.bool PI'.empty)).setCell ⟨O + 1, 1, none⟩ (.slice sa PI'.steps.length sc)).setCell ⟨O + 1, 2, none⟩ (.slice ka PI'.pair.1.length kc)).setCell ⟨O + 1, 3, none⟩ (.slice qa PI'.pair.2.length qc)) := ⟨_, rfl⟩
      have HI3 : Hid (ProofIs W3 (.agg #[.bool PI'.empty, .slice sa PI'.steps.length sc, .slice ka PI'.pair.1.length kc, .slice qa PI'.pair.2.length qc]) PI') := by rw [hW3]; exact hy.but (noInt_quad hbI) (sameBut_four _ _ _ _ _ _)
      have BI3 : Hid (W3.heap[O + 1]? = some (.cells #[.bool PI'.empty, .slice sa PI'.steps.length sc, .slice ka PI'.pair.1.length kc, .slice qa PI'.pair.2.length qc] 38)) := by rw [hW3]; exact (quad_set hbI _ _ _ _).1
      have BO3 : Hid (W3.heap[O]? = some (.cells #[.bool false, .slice none 0 0, .slice none 0 0, .slice none 0 0] 38)) := by
        show _ = _
        rw [hW3, four_other (by omega)]; exact hbO
      have hg03 : w.grownBy W3 none := by rw [hW3]; exact grown_quad hg02 _ hIw _ _ _ _
      have HW3 : Hid (W3 = ((((w2.setCell ⟨O + 1, 0, none⟩ (.bool PI'.empty)).setCell ⟨O + 1, 1, none⟩ (.slice sa PI'.steps.length sc)).setCell ⟨O + 1, 2, none⟩ (.slice ka PI'.pair.1.length kc)).setCell ⟨O + 1, 3, none⟩ (.slice qa PI'.pair.2.length qc))) := hW3
      clear hy hbI hbO hW3
      go_upto_region 5 with fail
      rw [← HW3.out]
      go_wp2_with fail
      refine (RP.out _ hg03).mono ?_
      rintro e w4 ⟨x4, rfl, hx4, hg4⟩
      have HX4 : Hid (PairsIs w4 x4 RT) := hx4
      obtain ⟨xa4, xc4, rfl⟩ := hx4.shape
      have hg04 := grown_trans hg03 hg4
      clear hx4 i0 i1 i2 i3 j0 j1 j2 j3
      go_wp2_with fail
      refine (PO.out _ _ hg04 HX4.out).mono ?_
      rintro e w5 ⟨z, rfl, hz, hg5⟩
      obtain ⟨sa2, sc2, ka2, kc2, qa2, qc2, rfl⟩ := hz.agg
      have hg35 := grown_trans hg4 hg5
      have hg05 := grown_trans hg03 hg35
      obtain ⟨⟨i0, i1, i2, i3⟩, j0, j1, j2, j3, hbO⟩ := quad_room hg35 BO3.out
      obtain ⟨_, _, _, _, _, hbI⟩ := quad_room hg35 BI3.out
      obtain ⟨W6, hW6⟩ : ∃ W6 : World, W6 = ((((w5.setCell ⟨O, 0, none⟩ (.bool PO'.empty)).setCell ⟨O, 1, none⟩ (.slice sa2 PO'.steps.length sc2)).setCell ⟨O, 2, none⟩ (.slice ka2 PO'.pair.1.length kc2)).setCell ⟨O, 3, none⟩ (.slice qa2 PO'.pair.2.length qc2)) := ⟨_, rfl⟩
      have HO6 : Hid (ProofIs W6 (.agg #[.bool PO'.empty, .slice sa2 PO'.steps.length sc2, .slice ka2 PO'.pair.1.length kc2, .slice qa2 PO'.pair.2.length qc2]) PO') := by rw [hW6]; exact hz.but (noInt_quad hbO) (sameBut_four _ _ _ _ _ _)
      have HI6 : Hid (ProofIs W6 (.agg #[.bool PI'.empty, .slice sa PI'.steps.length sc, .slice ka PI'.pair.1.length kc, .slice qa PI'.pair.2.length qc]) PI') := by rw [hW6]; exact (HI3.out.grown hg35).but (noInt_quad hbO) (sameBut_four _ _ _ _ _ _)
      have BO6 : Hid (W6.heap[O]? = some (.cells #[.bool PO'.empty, .slice sa2 PO'.steps.length sc2, .slice ka2 PO'.pair.1.length kc2, .slice qa2 PO'.pair.2.length qc2] 38)) := by rw [hW6]; exact (quad_set hbO _ _ _ _).1
      have BI6 : Hid (W6.heap[O + 1]? = some (.cells #[.bool PI'.empty, .slice sa PI'.steps.length sc, .slice ka PI'.pair.1.length kc, .slice qa PI'.pair.2.length qc] 38)) := by
        show _ = _
        rw [hW6, four_other (by omega)]; exact hbI
      have hg06 : w.grownBy W6 none := by rw [hW6]; exact grown_quad hg05 _ hOw _ _ _ _
      have HW6 : Hid (W6 = ((((w5.setCell ⟨O, 0, none⟩ (.bool PO'.empty)).setCell ⟨O, 1, none⟩ (.slice sa2 PO'.steps.length sc2)).setCell ⟨O, 2, none⟩ (.slice ka2 PO'.pair.1.length kc2)).setCell ⟨O, 3, none⟩ (.slice qa2 PO'.pair.2.length qc2))) := hW6
      clear hz hbI hbO hW6
      go_upto_region 11 with fail
      rw [← HW6.out]
      clear i0 i1 i2 i3 j0 j1 j2 j3
      obtain ⟨⟨a0, a1, a2, a3⟩, f0, f1, f2, f3, hbO⟩ := quad_room (grown_refl W6 none) BO6.out
      obtain ⟨⟨b0, b1, b2, b3⟩, g0, g1, g2, g3, hbI⟩ := quad_room (grown_refl W6 none) BI6.out
      clear hbO hbI
      go_wp2_with fail
      obtain ⟨s0, s1, s2, s3⟩ := four_self (show W6.drew.heap[O]? = _ from BO6.out)
      obtain ⟨t0, t1, t2, t3⟩ := four_self (show W6.drew.heap[O + 1]? = _ from BI6.out)
      go_region
      all_goals (
        go_wp2
        refine bodyPost_ret (v := .tuple #[.agg #[.bool PO'.empty, .slice sa2 PO'.steps.length sc2, .slice ka2 PO'.pair.1.length kc2, .slice qa2 PO'.pair.2.length qc2], .agg #[.bool PI'.empty, .slice sa PI'.steps.length sc, .slice ka PI'.pair.1.length kc, .slice qa PI'.pair.2.length qc], .int .i64 0]) (by simp [results, Tryd.results9, go_sem, a0, a1, a2, a3, b0, b1, b2, b3]) rfl ?_
        exact ⟨_, _, rfl, HO6.out, HI6.out, grown_drew hg06⟩)
    · have e2 : fproveE l n k = keyFaultF k.length := by rw [fproveE, if_pos hE]
      have e3 : fouterF l n k = noPrf := by rw [fouterF, if_neg (by rw [e2]; exact hK)]
      have e4 : finnerF l n k = noPrf := by rw [finnerF, if_neg (by rw [e2]; exact hK)]
      rw [e2, e3, e4]
      rw [e4] at PI
      generalize keyFaultF k.length = z at *
      have hz' : (z != 0) = true := by simpa using hK
      generalize ofF l n = M at *
      clear hE hF hN hT hR hv hr hu hl hnl hkl ht hK e2 e3 e4 RP
      go_enter Tryd.func9, Tryd.ntmps9
      go_wp2_with fail
      rw [← HW0.out, HSZ.out]
      refine CP.out.mono ?_
      rintro e w1 ⟨x, rfl, hx, ⟨xa, xn, xc, rfl⟩, hg1⟩
      have HX : Hid (PairsIs w1 (.slice xa xn xc) M) := hx trivial
      have hg01 := grown_trans hgW hg1
      clear hx
      go_wp2_with fail
      refine (PI.out _ _ hg01 HX.out).mono ?_
      rintro e w2 ⟨y, rfl, hy, hg2⟩
      obtain ⟨sa, sc, ka, kc, qa, qc, rfl⟩ := hy.agg
      have hg12 := grown_trans hg1 hg2
      have hg02 := grown_trans hgW hg12
      obtain ⟨⟨i0, i1, i2, i3⟩, j0, j1, j2, j3, hbI⟩ := quad_room hg12 BI.out
      obtain ⟨_, _, _, _, _, hbO⟩ := quad_room hg12 BO.out
      generalize noPrf.empty = ne at *
      generalize noPrf.steps.length = n1 at *
      generalize noPrf.pair.1.length = n2 at *
      generalize noPrf.pair.2.length = n3 at *
      obtain ⟨W3, hW3⟩ : ∃ W3 : World, W3 = ((((w2.setCell ⟨O + 1, 0, none⟩ (.bool ne)).setCell ⟨O + 1, 1, none⟩ (.slice sa n1 sc)).setCell ⟨O + 1, 2, none⟩ (.slice ka n2 kc)).setCell ⟨O + 1, 3, none⟩ (.slice qa n3 qc)) := ⟨_, rfl⟩
      have BI3 : Hid (W3.heap[O + 1]? = some (.cells #[.bool ne, .slice sa n1 sc, .slice ka n2 kc, .slice qa n3 qc] 38)) := by rw [hW3]; exact (quad_set hbI _ _ _ _).1
      have BO3 : Hid (W3.heap[O]? = some (.cells #[.bool false, .slice none 0 0, .slice none 0 0, .slice none 0 0] 38)) := by
        show _ = _
        rw [hW3, four_other (by omega)]; exact hbO
      have hg03 : w.grownBy W3 none := by rw [hW3]; exact grown_quad hg02 _ hIw _ _ _ _
      have HW3 : Hid (W3 = ((((w2.setCell ⟨O + 1, 0, none⟩ (.bool ne)).setCell ⟨O + 1, 1, none⟩ (.slice sa n1 sc)).setCell ⟨O + 1, 2, none⟩ (.slice ka n2 kc)).setCell ⟨O + 1, 3, none⟩ (.slice qa n3 qc))) := hW3
      clear hy hbI hbO hW3
      go_upto_region 5 with fail
      rw [← HW3.out]
      clear i0 i1 i2 i3 j0 j1 j2 j3
      obtain ⟨⟨a0, a1, a2, a3⟩, f0, f1, f2, f3, hbO⟩ := quad_room (grown_refl W3 none) BO3.out
      obtain ⟨⟨b0, b1, b2, b3⟩, g0, g1, g2, g3, hbI⟩ := quad_room (grown_refl W3 none) BI3.out
      obtain ⟨s0, s1, s2, s3⟩ := four_self BO3.out
      obtain ⟨q, _⟩ := quad_set hbI (.bool false) (.slice none 0 0) (.slice none 0 0) (.slice none 0 0)
      have q2 := (four_other (w := W3) (c := O + 1) (b := O) (by omega) (.bool false) (.slice none 0 0) (.slice none 0 0) (.slice none 0 0)).trans hbO
      obtain ⟨⟨k0, k1, k2, k3⟩, _⟩ := quad_room (grown_refl _ none) q
      obtain ⟨⟨m0, m1, m2, m3⟩, _⟩ := quad_room (grown_refl _ none) q2
      have hgF := grown_quad hg03 (O + 1) hIw (.bool false) (.slice none 0 0) (.slice none 0 0) (.slice none 0 0)
      clear hbO hbI q q2
      go_wp2
      refine bodyPost_ret (v := .tuple #[.agg #[.bool false, .slice none 0 0, .slice none 0 0, .slice none 0 0], .agg #[.bool false, .slice none 0 0, .slice none 0 0, .slice none 0 0], .int .i64 z]) (by simp [results, Tryd.results9, go_sem, k0, k1, k2, k3, m0, m1, m2, m3]) rfl ?_
      exact ⟨_, _, rfl, proofIs_no _, proofIs_no _, hgF⟩
  · have e2 : fproveE l n k = fnE l n := by rw [fproveE, if_neg hE]
    have e3 : fouterF l n k = noPrf := by rw [fouterF, if_neg (by rw [e2]; exact hE)]
    have e4 : finnerF l n k = noPrf := by rw [finnerF, if_neg (by rw [e2]; exact hE)]
    rw [e2, e3, e4]
    generalize fnE l n = z at *
    have hz' : (z != 0) = true := by simpa using hE
    obtain ⟨va, vc, rfl⟩ := hv.shape
    obtain ⟨ra, rc, rfl⟩ := hr.shape
    obtain ⟨ua, uc, rfl⟩ := hu.shape
    clear hv hr hu hl hnl hkl ht e2 e3 e4
    go_enter Tryd.func9, Tryd.ntmps9
    go_wp2_with fail
    rw [← HW0.out, HSZ.out]
    refine CP.out.mono ?_
    rintro e w1 ⟨x, rfl, hx, ⟨xa, xn, xc, rfl⟩, hg1⟩
    have hg01 := grown_trans hgW hg1
    obtain ⟨⟨a0, a1, a2, a3⟩, f0, f1, f2, f3, hbO⟩ := quad_room hg1 BO.out
    obtain ⟨⟨b0, b1, b2, b3⟩, g0, g1, g2, g3, hbI⟩ := quad_room hg1 BI.out
    obtain ⟨s0, s1, s2, s3⟩ := four_self hbO
    obtain ⟨t0, t1, t2, t3⟩ := four_self hbI
    clear hx hbO hbI
    go_wp2
    refine bodyPost_ret (v := .tuple #[.agg #[.bool false, .slice none 0 0, .slice none 0 0, .slice none 0 0], .agg #[.bool false, .slice none 0 0, .slice none 0 0, .slice none 0 0], .int .i64 z]) (by simp [results, Tryd.results9, go_sem, a0, a1, a2, a3, b0, b1, b2, b3]) rfl ?_
    exact ⟨_, _, rfl, proofIs_no _, proofIs_no _, hg01⟩
end Go.Proofs.YtkkcjnhfbblgiacDoor
