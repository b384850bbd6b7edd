/-
  The walk of the document's answer to P5.6: ForestProof.
-/
import Derived.Test.YtkkcjnhfbblgiabDoorRRoots
import Derived.Test.YtkkcjnhfbblgiabDoorPart15
import Derived.Test.YtkkcjnhfbblgiabDoorRProofOf
import Derived.Test.YtkkcjnhfbblgiabDoorProofBut
namespace Go.Proofs.YtkkcjnhfbblgiabDoor
open Go.RowKit
theorem alloc_named2 (w : World) (o : Obj) : ∃ W : World, Hid (W = w.alloc o) ∧ w.grownBy W none ∧ Hid (W.heap[w.heap.size]? = some o) := ⟨w.alloc o, rfl, World.grownBy_alloc _ _ _, heap_alloc_new w o⟩
set_option maxRecDepth 100000 in
set_option maxHeartbeats 2000000 in
theorem forestProof_any (w : World) (v r u : Value) (l : FL) (n k : List UInt8) (hv : TensIs w v l) (hr : SliceIs w r n) (hu : SliceIs w u k) :
    Calls Tryd.prog 9 #[v, r, u] w fun e w' => ∃ x y, e = .returned (.tuple #[x, y, .int .i64 (fproveE l n k)]) ∧ ProofIs w' x (fouterF l n k) ∧ ProofIs w' y (finnerF l n k) ∧ w.grownBy w' none := by
  obtain ⟨W0, hW0⟩ : ∃ W0 : World, W0 = (w.alloc (.cells #[.bool false, .slice none 0 0, .slice none 0 0, .slice none 0 0] 29)).alloc (.cells #[.bool false, .slice none 0 0, .slice none 0 0, .slice none 0 0] 29) := ⟨_, rfl⟩
  have HW0 : Hid (W0 = (w.alloc (.cells #[.bool false, .slice none 0 0, .slice none 0 0, .slice none 0 0] 29)).alloc (.cells #[.bool false, .slice none 0 0, .slice none 0 0, .slice none 0 0] 29)) := hW0
  have hgW : w.grownBy W0 none := by rw [hW0]; exact grown_alloc (World.grownBy_alloc _ _ _) _
  have BO : Hid (W0.heap[w.heap.size]? = some (.cells #[.bool false, .slice none 0 0, .slice none 0 0, .slice none 0 0] 29)) := by
    show _ = _
    rw [hW0, (World.grownBy_alloc _ _ none).block _ (by simp) (by simp)]; exact heap_alloc_new w _
  have BI : Hid (W0.heap[w.heap.size + 1]? = some (.cells #[.bool false, .slice none 0 0, .slice none 0 0, .slice none 0 0] 29)) := by
    have := heap_alloc_new (w.alloc (.cells #[.bool false, .slice none 0 0, .slice none 0 0, .slice none 0 0] 29)) (.cells #[.bool false, .slice none 0 0, .slice none 0 0, .slice none 0 0] 29)
    rw [World.size_alloc] at this
    show _ = _
    rw [hW0]; exact this
  have hsz0 : W0.heap.size = w.heap.size + 1 + 1 := by rw [hW0]; simp
  obtain ⟨ra, rc, rfl⟩ := hr.shape
  obtain ⟨ua, uc, rfl⟩ := hu.shape
  obtain ⟨va, vc, rfl⟩ := hv.shape
  have FN : Hid (Calls Tryd.prog 26 #[.slice va l.length vc, .slice ra n.length rc] W0 fun e w' => e = .returned (.int .i64 (fnE l n)) ∧ W0.grownBy w' none) := forestAndName_any W0 _ l ra n rc (hv.grown hgW)
  obtain ⟨O, hO⟩ : ∃ O, O = w.heap.size := ⟨_, rfl⟩
  rw [← hO] at BO BI hsz0
  have hOw : w.heap.size ≤ O := by omega
  have hIw : w.heap.size ≤ O + 1 := by omega
  have HSZ : Hid (w.heap.size = O) := hO.symm
  clear hO hW0
  by_cases hE : fnE l n = 0
  · obtain ⟨hF, hN⟩ := fnE_forest hE
    have hT := of_tree hF n
    have hR := roots_tree hF
    rw [hE] at FN
    have KF : Hid (∀ W, Calls Tryd.prog 27 #[.slice ua k.length uc] W fun e w' => e = .returned (.int .i64 (keyFaultF k.length)) ∧ w' = W) := fun W => keyFault_any W _ _ _
    by_cases hK : keyFaultF k.length = 0
    · have hk := (keyFault_iff _).1 hK
      have e2 : fproveE l n k = 0 := by rw [fproveE, if_pos hE, hK]
      have PS : Hid (∀ w', w.grownBy w' none → Calls Tryd.prog 28 #[.slice va l.length vc, .slice ra n.length rc] w' fun e w'' => ∃ x, e = .returned x ∧ PairsIs w' x (ofF l n) ∧ w'' = w') := fun w' hg => pairsOf_any w' _ _ l n (hv.grown hg) (hr.grown hg) hF.room
      have RO : Hid (∀ w', w.grownBy w' none → Calls Tryd.prog 29 #[.slice va l.length vc] w' fun e w'' => ∃ x, e = .returned x ∧ PairsIs w'' x (rootsF l) ∧ w'.grownBy w'' none) := fun w' hg => rootsOf_any w' _ l (hv.grown hg) hF
      have PI : Hid (∀ w' x, w.grownBy w' none → PairsIs w' x (ofF l n) → Calls Tryd.prog 30 #[x, .slice ua k.length uc] w' fun e w'' => ∃ y, e = .returned (.tuple #[y, .int .i64 0]) ∧ ProofIs w'' y (finnerF l n k) ∧ w'.grownBy w'' none) := fun w' x hg hx => by
        have := proofOf_any w' x _ _ k hx (hu.grown hg)
        have e1 := getE_ok hT hk
        have e3 : proveF (ofF l n) k = finnerF l n k := by rw [proveF, if_pos e1, finnerF, if_pos e2]
        rw [e1, e3] at this
        exact this
      have PO : Hid (∀ w' x, w.grownBy w' none → PairsIs w' x (rootsF l) → Calls Tryd.prog 30 #[x, .slice ra n.length rc] w' fun e w'' => ∃ y, e = .returned (.tuple #[y, .int .i64 0]) ∧ ProofIs w'' y (fouterF l n k) ∧ w'.grownBy w'' none) := fun w' x hg hx => by
        have := proofOf_any w' x _ _ n hx (hr.grown hg)
        have e1 := getE_ok hR ⟨hN.1, by omega⟩
        have e3 : proveF (rootsF l) n = fouterF l n k := by rw [proveF, if_pos e1, fouterF, if_pos e2]
        rw [e1, e3] at this
        exact this
      have HS : Hid (∀ w' x, PairsIs w' x (ofF l n) → ∃ a n c, x = .slice a n c) := fun w' x h => by obtain ⟨a, c, e⟩ := h.shape; exact ⟨_, _, _, e⟩
      rw [e2]
      rw [hK] at KF
      generalize fouterF l n k = PO' at *
      generalize finnerF l n k = PI' at *
      generalize rootsF l = RT at *
      generalize ofF l n = M at *
      clear hE hF hN hT hR hv hr hu hK e2 hk
      go_enter Tryd.func9, Tryd.ntmps9
      go_wp2_with fail
      rw [← HW0.out, HSZ.out]
      refine FN.out.mono ?_
      rintro e w1 ⟨rfl, hg1⟩
      have hg01 := grown_trans hgW hg1
      go_wp2_with fail
      refine (KF.out _).mono ?_
      rintro e w1' ⟨rfl, rfl⟩
      go_wp2_with fail
      refine (PS.out _ hg01).mono ?_
      rintro e w1'' ⟨x, rfl, hx, rfl⟩
      obtain ⟨xa, xn, xc, rfl⟩ := HS.out _ _ hx
      have HX : Hid (PairsIs w1'' (.slice xa xn xc) M) := hx
      clear hx
      go_wp2_with fail
      refine (RO.out _ hg01).mono ?_
      rintro e w2 ⟨x2, rfl, hx2, hg2⟩
      have HX2 : Hid (PairsIs w2 x2 RT) := hx2
      obtain ⟨xa2, xc2, rfl⟩ := hx2.shape
      have hg02 := grown_trans hg01 hg2
      clear hx2
      go_wp2_with fail
      refine (PI.out _ _ hg02 (HX.out.grown hg2)).mono ?_
      rintro e w3 ⟨y, rfl, hy, hg3⟩
      obtain ⟨sa, sc, ka, kc, qa, qc, rfl⟩ := hy.agg
      obtain ⟨W3, HW3, hgA3, B3⟩ := alloc_named2 w3 (.cells #[.bool PI'.empty, .slice sa PI'.steps.length sc, .slice ka PI'.pair.1.length kc, .slice qa PI'.pair.2.length qc] 29)
      have HI3 : Hid (ProofIs W3 (.agg #[.bool PI'.empty, .slice sa PI'.steps.length sc, .slice ka PI'.pair.1.length kc, .slice qa PI'.pair.2.length qc]) PI') := hy.grown hgA3
      have hg23 := grown_trans hg3 hgA3
      have hg03 := grown_trans hg02 hg23
      have hs3 := (grown_trans hg1 (grown_trans hg2 hg3)).size
      clear hy
      go_upto_region 9 with fail
      rw [← HW3.out]
      go_wp2_with fail
      refine (PO.out _ _ hg03 (HX2.out.grown hg23)).mono ?_
      rintro e w4 ⟨z, rfl, hz, hg4⟩
      obtain ⟨sa2, sc2, ka2, kc2, qa2, qc2, rfl⟩ := hz.agg
      obtain ⟨W4, HW4, hgA4, B4⟩ := alloc_named2 w4 (.cells #[.bool PO'.empty, .slice sa2 PO'.steps.length sc2, .slice ka2 PO'.pair.1.length kc2, .slice qa2 PO'.pair.2.length qc2] 29)
      have HO4 : Hid (ProofIs W4 (.agg #[.bool PO'.empty, .slice sa2 PO'.steps.length sc2, .slice ka2 PO'.pair.1.length kc2, .slice qa2 PO'.pair.2.length qc2]) PO') := hz.grown hgA4
      have hg34 := grown_trans hg4 hgA4
      have hg04 := grown_trans hg03 hg34
      have hs4 := (grown_trans hg1 (grown_trans hg2 (grown_trans hg23 hg4))).size
      clear hz
      go_upto_region 10 with fail
      rw [← HW4.out]
      have hg0W : W0.grownBy W4 none := grown_trans hg1 (grown_trans hg2 (grown_trans hg23 hg34))
      obtain ⟨⟨i0, i1, i2, i3⟩, j0, j1, j2, j3, hbO⟩ := quad_room hg0W BO.out
      obtain ⟨⟨m0, m1, m2, m3⟩, n0, n1, n2, n3, hbI⟩ := quad_room hg0W BI.out
      obtain ⟨⟨a0, a1, a2, a3⟩, _⟩ := quad_room hg34 B3.out
      obtain ⟨⟨b0, b1, b2, b3⟩, _⟩ := quad_room (grown_refl W4 none) B4.out
      obtain ⟨W5, hW5⟩ : ∃ W5 : World, W5 = ((((W4.setCell ⟨O, 0, none⟩ (.bool PO'.empty)).setCell ⟨O, 1, none⟩ (.slice sa2 PO'.steps.length sc2)).setCell ⟨O, 2, none⟩ (.slice ka2 PO'.pair.1.length kc2)).setCell ⟨O, 3, none⟩ (.slice qa2 PO'.pair.2.length qc2)) := ⟨_, rfl⟩
      have BO5 : W5.heap[O]? = some (.cells #[.bool PO'.empty, .slice sa2 PO'.steps.length sc2, .slice ka2 PO'.pair.1.length kc2, .slice qa2 PO'.pair.2.length qc2] 29) := by rw [hW5]; exact (quad_set hbO _ _ _ _).1
      have BI5 : W5.heap[O + 1]? = some (.cells #[.bool false, .slice none 0 0, .slice none 0 0, .slice none 0 0] 29) := by rw [hW5, four_other (by omega)]; exact hbI
      have PO5 : ProofIs W5 (.agg #[.bool PO'.empty, .slice sa2 PO'.steps.length sc2, .slice ka2 PO'.pair.1.length kc2, .slice qa2 PO'.pair.2.length qc2]) PO' := by rw [hW5]; exact HO4.out.but (noInt_quad hbO) (sameBut_four _ _ _ _ _ _)
      have PI5 : ProofIs W5 (.agg #[.bool PI'.empty, .slice sa PI'.steps.length sc, .slice ka PI'.pair.1.length kc, .slice qa PI'.pair.2.length qc]) PI' := by rw [hW5]; exact (HI3.out.grown hg34).but (noInt_quad hbO) (sameBut_four _ _ _ _ _ _)
      have hg05 : w.grownBy W5 none := by rw [hW5]; exact grown_quad hg04 _ hOw _ _ _ _
      obtain ⟨W6, hW6⟩ : ∃ W6 : World, W6 = ((((W5.setCell ⟨O + 1, 0, none⟩ (.bool PI'.empty)).setCell ⟨O + 1, 1, none⟩ (.slice sa PI'.steps.length sc)).setCell ⟨O + 1, 2, none⟩ (.slice ka PI'.pair.1.length kc)).setCell ⟨O + 1, 3, none⟩ (.slice qa PI'.pair.2.length qc)) := ⟨_, rfl⟩
      have BI6 : W6.heap[O + 1]? = some (.cells #[.bool PI'.empty, .slice sa PI'.steps.length sc, .slice ka PI'.pair.1.length kc, .slice qa PI'.pair.2.length qc] 29) := by rw [hW6]; exact (quad_set BI5 _ _ _ _).1
      have BO6 : W6.heap[O]? = some (.cells #[.bool PO'.empty, .slice sa2 PO'.steps.length sc2, .slice ka2 PO'.pair.1.length kc2, .slice qa2 PO'.pair.2.length qc2] 29) := by rw [hW6, four_other (by omega)]; exact BO5
      have HO6 : Hid (ProofIs W6 (.agg #[.bool PO'.empty, .slice sa2 PO'.steps.length sc2, .slice ka2 PO'.pair.1.length kc2, .slice qa2 PO'.pair.2.length qc2]) PO') := by rw [hW6]; exact PO5.but (noInt_quad BI5) (sameBut_four _ _ _ _ _ _)
      have HI6 : Hid (ProofIs W6 (.agg #[.bool PI'.empty, .slice sa PI'.steps.length sc, .slice ka PI'.pair.1.length kc, .slice qa PI'.pair.2.length qc]) PI') := by rw [hW6]; exact PI5.but (noInt_quad BI5) (sameBut_four _ _ _ _ _ _)
      have hg06 : w.grownBy W6 none := by rw [hW6]; exact grown_quad hg05 _ hIw _ _ _ _
      have HW56 : Hid (W6 = ((((((((W4.setCell ⟨O, 0, none⟩ (.bool PO'.empty)).setCell ⟨O, 1, none⟩ (.slice sa2 PO'.steps.length sc2)).setCell ⟨O, 2, none⟩ (.slice ka2 PO'.pair.1.length kc2)).setCell ⟨O, 3, none⟩ (.slice qa2 PO'.pair.2.length qc2)).setCell ⟨O + 1, 0, none⟩ (.bool PI'.empty)).setCell ⟨O + 1, 1, none⟩ (.slice sa PI'.steps.length sc)).setCell ⟨O + 1, 2, none⟩ (.slice ka PI'.pair.1.length kc)).setCell ⟨O + 1, 3, none⟩ (.slice qa PI'.pair.2.length qc))) := by show _ = _; rw [hW6, hW5]
      obtain ⟨⟨c0, c1, c2, c3⟩, _⟩ := quad_room (grown_refl W6 none) BO6
      obtain ⟨⟨d0, d1, d2, d3⟩, _⟩ := quad_room (grown_refl W6 none) BI6
      have n17 : O ≠ O + 1 := by omega
      have n13 : O ≠ w3.heap.size := by omega
      have n14 : O + 1 ≠ w3.heap.size := by omega
      clear hbO hbI hs3 hs4 hW5 hW6 BO5 BI5 PO5 PI5 BO6 BI6
      go_region
      rw [← HW56.out]
      go_wp2
      refine bodyPost_ret (v := .tuple #[.agg #[.bool PO'.empty, .slice sa2 PO'.steps.length sc2, .slice ka2 PO'.pair.1.length kc2, .slice qa2 PO'.pair.2.length qc2], .agg #[.bool PI'.empty, .slice sa PI'.steps.length sc, .slice ka PI'.pair.1.length kc, .slice qa PI'.pair.2.length qc], .int .i64 0]) (by simp [results, Tryd.results9, go_sem, c0, c1, c2, c3, d0, d1, d2, d3]) rfl ?_
      exact ⟨_, _, rfl, HO6.out, HI6.out, grown_drew hg06⟩
    · have e2 : fproveE l n k = keyFaultF k.length := by rw [fproveE, if_pos hE]
      have e3 : fouterF l n k = noPrf := by rw [fouterF, if_neg (by rw [e2]; exact hK)]
      have e4 : finnerF l n k = noPrf := by rw [finnerF, if_neg (by rw [e2]; exact hK)]
      rw [e2, e3, e4]
      generalize keyFaultF k.length = z at *
      have hz' : (z != 0) = true := by simpa using hK
      clear hE hF hN hT hR hv hr hu hK e2 e3 e4
      go_enter Tryd.func9, Tryd.ntmps9
      go_wp2_with fail
      rw [← HW0.out, HSZ.out]
      refine FN.out.mono ?_
      rintro e w1 ⟨rfl, hg1⟩
      have hg01 := grown_trans hgW hg1
      go_wp2_with fail
      refine (KF.out _).mono ?_
      rintro e w1' ⟨rfl, rfl⟩
      obtain ⟨⟨a0, a1, a2, a3⟩, f0, f1, f2, f3, hbO⟩ := quad_room hg1 BO.out
      obtain ⟨⟨b0, b1, b2, b3⟩, g0, g1, g2, g3, hbI⟩ := quad_room hg1 BI.out
      obtain ⟨s0, s1, s2, s3⟩ := four_self hbO
      obtain ⟨t0, t1, t2, t3⟩ := four_self hbI
      clear hbO hbI
      go_wp2
      refine bodyPost_ret (v := .tuple #[.agg #[.bool false, .slice none 0 0, .slice none 0 0, .slice none 0 0], .agg #[.bool false, .slice none 0 0, .slice none 0 0, .slice none 0 0], .int .i64 z]) (by simp [results, Tryd.results9, go_sem, a0, a1, a2, a3, b0, b1, b2, b3]) rfl ?_
      exact ⟨_, _, rfl, proofIs_no _, proofIs_no _, hg01⟩
  · have e2 : fproveE l n k = fnE l n := by rw [fproveE, if_neg hE]
    have e3 : fouterF l n k = noPrf := by rw [fouterF, if_neg (by rw [e2]; exact hE)]
    have e4 : finnerF l n k = noPrf := by rw [finnerF, if_neg (by rw [e2]; exact hE)]
    rw [e2, e3, e4]
    generalize fnE l n = z at *
    have hz' : (z != 0) = true := by simpa using hE
    have hz'' : (z == 0) = false := by simpa using hE
    clear hv hr hu e2 e3 e4 hE
    go_enter Tryd.func9, Tryd.ntmps9
    go_wp2_with fail
    rw [← HW0.out, HSZ.out]
    refine FN.out.mono ?_
    rintro e w1 ⟨rfl, hg1⟩
    have hg01 := grown_trans hgW hg1
    obtain ⟨⟨a0, a1, a2, a3⟩, f0, f1, f2, f3, hbO⟩ := quad_room hg1 BO.out
    obtain ⟨⟨b0, b1, b2, b3⟩, g0, g1, g2, g3, hbI⟩ := quad_room hg1 BI.out
    obtain ⟨s0, s1, s2, s3⟩ := four_self hbO
    obtain ⟨t0, t1, t2, t3⟩ := four_self hbI
    clear hbO hbI
    go_wp2
    refine bodyPost_ret (v := .tuple #[.agg #[.bool false, .slice none 0 0, .slice none 0 0, .slice none 0 0], .agg #[.bool false, .slice none 0 0, .slice none 0 0, .slice none 0 0], .int .i64 z]) (by simp [results, Tryd.results9, go_sem, a0, a1, a2, a3, b0, b1, b2, b3]) rfl ?_
    exact ⟨_, _, rfl, proofIs_no _, proofIs_no _, hg01⟩
end Go.Proofs.YtkkcjnhfbblgiabDoor
