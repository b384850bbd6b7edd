/-
  The walk of canopykeep.ForestApart, over what the code must keep.
-/
import Derived.Test.YtkkcjnhfbblgiacDoorPart19
import Derived.Test.YtkkcjnhfbblgiacDoorKSame
import Derived.Test.YtkkcjnhfbblgiacDoorKSamePair
import Derived.Test.YtkkcjnhfbblgiacDoorWrMore
namespace Go.Proofs.YtkkcjnhfbblgiacDoor
open Go.RowKit
theorem ProofIs.ends {w : World} {p : Prf} {b s k v : Value} (h : ProofIs w (.agg #[b, s, k, v]) p) : SliceIs w k p.pair.1 ∧ SliceIs w v p.pair.2 := by
  obtain ⟨vs, vk, vv, e, _, h1, h2⟩ := h
  injection e with e
  injection e with e
  injection e with _ e
  injection e with _ e
  injection e with ek e
  injection e with ev e
  subst ek ev
  exact ⟨h1, h2⟩
set_option maxRecDepth 100000 in
set_option maxHeartbeats 4000000 in
theorem forestApart_walk (hA : FApplyOK) (hG : FGetOK) (hR : FRootOK) (hPr : FProveOK) (hV : FVerifyOK) (w : World) (v p o : Value) (l : List Plc) (P O : Plc) (hv : PlacesIs w v l) (hp : PlaceIs w p P) (ho : PlaceIs w o O) (hl : FitsQ l) (hP : PlcFits P) (hO : PlcFits O) (ht : Tabs w) :
    Calls Tryd.prog 4 #[v, p, o] w fun e w' => e = .returned (.bool true) ∧ w.grownBy w' none := by
  obtain ⟨hF, hS⟩ := mkP_ok l 20
  have HFO : Hid (∀ w', w.grownBy w' none → Calls Tryd.prog 6 #[v, .int .i64 20] w' fun e w'' => ∃ v', e = .returned v' ∧ TensIs w'' v' (mkP l 20) ∧ w'.grownBy w'' none) := fun w' hg => kforest_any hA w' v l 20 (hv.grown hg) hl (by omega)
  have HWP : Hid (∀ w', w.grownBy w' none → Calls Tryd.prog 7 #[p] w' fun e w'' => ∃ na nc ka kc va vc, e = .returned (.agg #[.slice na (writeF P).name.length nc, .slice ka (writeF P).key.length kc, .bool (writeF P).gone, .slice va (writeF P).value.length vc]) ∧ SliceIs w'' (.slice na (writeF P).name.length nc) (writeF P).name ∧ SliceIs w'' (.slice ka (writeF P).key.length kc) (writeF P).key ∧ SliceIs w'' (.slice va (writeF P).value.length vc) (writeF P).value ∧ w'.grownBy w'' none) := fun w' hg => write_of w' p P (hp.grown hg) hP
  have HWO : Hid (∀ w', w.grownBy w' none → Calls Tryd.prog 7 #[o] w' fun e w'' => ∃ na nc ka kc va vc, e = .returned (.agg #[.slice na (writeF O).name.length nc, .slice ka (writeF O).key.length kc, .bool (writeF O).gone, .slice va (writeF O).value.length vc]) ∧ SliceIs w'' (.slice na (writeF O).name.length nc) (writeF O).name ∧ SliceIs w'' (.slice ka (writeF O).key.length kc) (writeF O).key ∧ SliceIs w'' (.slice va (writeF O).value.length vc) (writeF O).value ∧ w'.grownBy w'' none) := fun w' hg => write_of w' o O (ho.grown hg) hO
  have hq := writeF_ok P
  have hr := writeF_ok O
  generalize writeF P = Q at *
  generalize writeF O = R at *
  obtain ⟨hqn, hqk, _⟩ := (writeE_iff Q).1 hq
  generalize mkP l 20 = f at *
  have AP : Hid (∀ w' v' u', TensIs w' v' f → WritesIs w' u' [R] → Calls Tryd.prog 13 #[v', u'] w' fun e w'' => ∃ x, e = .returned (.tuple #[x, .int .i64 (applyE f [R])]) ∧ TensIs w'' x (if applyE f [R] = 0 then applyL f [R] else []) ∧ w'.grownBy w'' none) := fun w' v' u' h1 h2 => FApplyOK.of hA w' v' u' f [R] h1 h2 hF (fun x hx => by simp at hx; rw [hx]; exact hr) (by simp)
  obtain ⟨pa1, pa2, pa3, pa4, pa5, pa6, rfl⟩ := hp.cells
  obtain ⟨oa1, oa2, oa3, oa4, oa5, oa6, rfl⟩ := ho.cells
  obtain ⟨la, lc, rfl⟩ := hv.shape
  obtain ⟨W0, hW0⟩ : ∃ W0 : World, W0 = (w.alloc (.cells #[.slice pa1 P.name.length pa2, .slice pa3 P.key.length pa4, .slice pa5 P.value.length pa6, .bool P.gone] 25)).alloc (.cells #[.slice oa1 O.name.length oa2, .slice oa3 O.key.length oa4, .slice oa5 O.value.length oa6, .bool O.gone] 25) := ⟨_, rfl⟩
  have HW0 : Hid (W0 = (w.alloc (.cells #[.slice pa1 P.name.length pa2, .slice pa3 P.key.length pa4, .slice pa5 P.value.length pa6, .bool P.gone] 25)).alloc (.cells #[.slice oa1 O.name.length oa2, .slice oa3 O.key.length oa4, .slice oa5 O.value.length oa6, .bool O.gone] 25)) := hW0
  have hgW : w.grownBy W0 none := by rw [hW0]; exact grown_alloc (World.grownBy_alloc _ _ _) _
  have BP : Hid (W0.heap[w.heap.size]? = some (.cells #[.slice pa1 P.name.length pa2, .slice pa3 P.key.length pa4, .slice pa5 P.value.length pa6, .bool P.gone] 25)) := by
    show _ = _
    rw [hW0, (World.grownBy_alloc _ _ none).block _ (by simp) (by simp)]; exact heap_alloc_new w _
  have BO : Hid (W0.heap[w.heap.size + 1]? = some (.cells #[.slice oa1 O.name.length oa2, .slice oa3 O.key.length oa4, .slice oa5 O.value.length oa6, .bool O.gone] 25)) := by
    have := heap_alloc_new (w.alloc (.cells #[.slice pa1 P.name.length pa2, .slice pa3 P.key.length pa4, .slice pa5 P.value.length pa6, .bool P.gone] 25)) (.cells #[.slice oa1 O.name.length oa2, .slice oa3 O.key.length oa4, .slice oa5 O.value.length oa6, .bool O.gone] 25)
    rw [World.size_alloc] at this
    show _ = _
    rw [hW0]; exact this
  clear hp ho hv hW0 hP hO hl
  generalize P.name.length = pn at *
  generalize P.key.length = pk at *
  generalize P.value.length = pv at *
  generalize P.gone = pg at *
  generalize O.name.length = on at *
  generalize O.key.length = ok at *
  generalize O.value.length = ov at *
  generalize O.gone = og at *
  have HND : Hid (Q.name = R.name ∨ ¬ Q.name = R.name) := Classical.em _
  by_cases z : applyE f [R] = 0
  · have hw0 : writtenE f R = 0 := by rw [← (apply_one hr).1]; exact z
    have hN := written_forest hF hr hw0
    rw [z, if_pos rfl, (apply_one hr).2] at AP
    by_cases hne : Q.name = R.name
    · have HND : Hid (Q.name = R.name) := hne
      generalize writtenL f R = X at *
      clear z hN hw0 hq hr hqn hqk hF hS hA hG hR hPr hV ht hne
      go_enter Tryd.func4, Tryd.ntmps4
      go_wp2_with fail
      rw [← HW0.out]
      go_wp2_with fail
      refine (HFO.out _ hgW).mono ?_
      rintro e w1 ⟨v1, rfl, h1, hg1⟩
      obtain ⟨fa, fc, rfl⟩ := h1.shape
      have HT1 : Hid (TensIs w1 (.slice fa f.length fc) f) := h1
      have hg01 := grown_trans hgW hg1
      obtain ⟨⟨p0, p1, p2, p3⟩, _⟩ := quad_room hg1 BP.out
      clear h1
      go_wp2_with fail
      refine (HWP.out _ hg01).mono ?_
      rintro e w2 ⟨qa1, qa2, qa3, qa4, qa5, qa6, rfl, hq1, hq2, hq3, hg2⟩
      obtain ⟨W2, HW2, hgA2, B2⟩ := alloc_named w2 (.cells #[.slice qa1 Q.name.length qa2, .slice qa3 Q.key.length qa4, .bool Q.gone, .slice qa5 Q.value.length qa6] 29)
      have HQ1 : Hid (SliceIs W2 (.slice qa1 Q.name.length qa2) Q.name) := hq1.grown hgA2
      have HQ2 : Hid (SliceIs W2 (.slice qa3 Q.key.length qa4) Q.key) := hq2.grown hgA2
      have HQ3 : Hid (SliceIs W2 (.slice qa5 Q.value.length qa6) Q.value) := hq3.grown hgA2
      have hg12 := grown_trans hg2 hgA2
      have hg02 := grown_trans hg01 hg12
      clear hq1 hq2 hq3 p0 p1 p2 p3
      go_upto_region 3 with fail
      rw [← HW2.out]
      have hgL2 := grown_trans hg1 hg12
      obtain ⟨⟨o0, o1, o2, o3⟩, _⟩ := quad_room hgL2 BO.out
      go_wp2_with fail
      refine (HWO.out _ hg02).mono ?_
      rintro e w3 ⟨ra1, ra2, ra3, ra4, ra5, ra6, rfl, hr1, hr2, hr3, hg3⟩
      obtain ⟨W3, HW3, hgA3, B3⟩ := alloc_named w3 (.cells #[.slice ra1 R.name.length ra2, .slice ra3 R.key.length ra4, .bool R.gone, .slice ra5 R.value.length ra6] 29)
      have HR1 : Hid (SliceIs W3 (.slice ra1 R.name.length ra2) R.name) := hr1.grown hgA3
      have HR2 : Hid (SliceIs W3 (.slice ra3 R.key.length ra4) R.key) := hr2.grown hgA3
      have HR3 : Hid (SliceIs W3 (.slice ra5 R.value.length ra6) R.value) := hr3.grown hgA3
      have hg23 := grown_trans hg3 hgA3
      have hg13 := grown_trans hg12 hg23
      have hg03 := grown_trans hg02 hg23
      clear hr1 hr2 hr3 o0 o1 o2 o3
      go_upto_region 4 with fail
      rw [← HW3.out]
      obtain ⟨⟨b0, b1, b2, b3⟩, _⟩ := quad_room (grown_refl W3 none) B3.out
      have hwr := writes_one W3 _ _ _ R HR1.out HR2.out HR3.out 29
      obtain ⟨W4, HW4, hgA4, _⟩ := alloc_named W3 (.cells #[.slice ra1 R.name.length ra2, .slice ra3 R.key.length ra4, .bool R.gone, .slice ra5 R.value.length ra6] 29)
      rw [← HW4.out] at hwr
      have HWR : Hid (WritesIs W4 (.slice (some ⟨W3.heap.size, 0, none⟩) 1 1) [R]) := hwr
      clear hwr
      go_wp2_with fail
      rw [← HW4.out]
      refine (AP.out _ _ _ (HT1.out.grown (grown_trans hg13 hgA4)) HWR.out).mono ?_
      rintro e w5 ⟨x5, rfl, h5, hg5⟩
      obtain ⟨na5, nc5, rfl⟩ := h5.shape
      have HX5 : Hid (TensIs w5 (.slice na5 X.length nc5) X) := h5
      have hg35 := grown_trans hgA4 hg5
      have hg25 := grown_trans hg23 hg35
      have hg05 := grown_trans hg03 hg35
      have hg15 := grown_trans hg13 hg35
      clear h5 b0 b1 b2 b3
      go_upto_region 5 with fail
      obtain ⟨⟨a0, a1, a2, a3⟩, _⟩ := quad_room hg25 B2.out
      obtain ⟨⟨b0, b1, b2, b3⟩, _⟩ := quad_room hg35 B3.out
      have SMN : Hid (Calls Tryd.prog 12 #[.slice qa1 Q.name.length qa2, .slice ra1 R.name.length ra2] w5 fun e w' => e = .returned (.bool (decide (Q.name = R.name))) ∧ w' = w5) := same_any w5 _ _ _ _ (HQ1.out.grown hg25) (HR1.out.grown hg35)
      go_wp2_with fail
      refine SMN.out.mono ?_
      rintro e w' ⟨rfl, rfl⟩
      rw [decide_eq_true HND.out]
      go_wp2
      go_ret
      exact ⟨rfl, hg05⟩
    · have HND : Hid (¬ Q.name = R.name) := hne
      have hap := written_apart hF R Q.name (fun h => hne h.symm)
      have RT : Hid (∀ w' v', w.grownBy w' none → TensIs w' v' (writtenL f R) → Calls Tryd.prog 8 #[v'] w' fun e w'' => ∃ xa xc, e = .returned (.tuple #[.slice xa 32 xc, .int .i64 0]) ∧ SliceIs w'' (.slice xa 32 xc) (rootL (rootsF (writtenL f R))) ∧ w'.grownBy w'' none) := fun w' v' hg h => FRootOK.of hR w' v' (writtenL f R) h hN (ht.grownNone hg)
      have PVF : Hid (∀ w' v' r' u', w.grownBy w' none → TensIs w' v' f → SliceIs w' r' Q.name → SliceIs w' u' Q.key → Calls Tryd.prog 9 #[v', r', u'] w' fun e w'' => ∃ x y, e = .returned (.tuple #[x, y, .int .i64 0]) ∧ ProofIs w'' x (proveL (rootsF f) Q.name) ∧ ProofIs w'' y (proveL (ofF f Q.name) Q.key) ∧ w'.grownBy w'' none) := fun w' v' r' u' hg h1 h2 h3 => FProveOK.of hPr w' v' r' u' f _ _ h1 h2 h3 hF hqn hqk (ht.grownNone hg)
      have PVX : Hid (∀ w' v' r' u', w.grownBy w' none → TensIs w' v' (writtenL f R) → SliceIs w' r' Q.name → SliceIs w' u' Q.key → Calls Tryd.prog 9 #[v', r', u'] w' fun e w'' => ∃ x y, e = .returned (.tuple #[x, y, .int .i64 0]) ∧ ProofIs w'' x (proveL (rootsF (writtenL f R)) Q.name) ∧ ProofIs w'' y (proveL (ofF (writtenL f R) Q.name) Q.key) ∧ w'.grownBy w'' none) := fun w' v' r' u' hg h1 h2 h3 => FProveOK.of hPr w' v' r' u' (writtenL f R) _ _ h1 h2 h3 hN hqn hqk (ht.grownNone hg)
      have VF : Hid (∀ w' r' m' u' o' i', w.grownBy w' none → SliceIs w' r' (rootL (rootsF (writtenL f R))) → SliceIs w' m' Q.name → SliceIs w' u' Q.key → ProofIs w' o' (proveL (rootsF (writtenL f R)) Q.name) → ProofIs w' i' (proveL (ofF (writtenL f R) Q.name) Q.key) → Calls Tryd.prog 10 #[r', m', u', o', i'] w' fun e w'' => ∃ xa xc, e = .returned (.tuple #[.agg #[.bool (getF (ofF (writtenL f R) Q.name) Q.key).isSome, .slice xa ((getF (ofF (writtenL f R) Q.name) Q.key).getD []).length xc], .int .i64 0]) ∧ SliceIs w'' (.slice xa ((getF (ofF (writtenL f R) Q.name) Q.key).getD []).length xc) ((getF (ofF (writtenL f R) Q.name) Q.key).getD []) ∧ w'.grownBy w'' none) := fun w' r' m' u' o' i' hg h1 h2 h3 h4 h5 => FVerifyOK.of hV w' r' m' u' o' i' (writtenL f R) _ _ hN hqn hqk h1 h2 h3 h4 h5 (ht.grownNone hg)
      have GT : Hid (∀ w' v' r' u', TensIs w' v' f → SliceIs w' r' Q.name → SliceIs w' u' Q.key → Calls Tryd.prog 11 #[v', r', u'] w' fun e w'' => ∃ xa xc, e = .returned (.tuple #[.agg #[.bool (getF (ofF f Q.name) Q.key).isSome, .slice xa ((getF (ofF f Q.name) Q.key).getD []).length xc], .int .i64 0]) ∧ SliceIs w'' (.slice xa ((getF (ofF f Q.name) Q.key).getD []).length xc) ((getF (ofF f Q.name) Q.key).getD []) ∧ w'.grownBy w'' none) := fun w' v' r' u' h1 h2 h3 => FGetOK.of hG w' v' r' u' _ _ _ h1 h2 h3 hF hqn hqk
      rw [hap] at PVX VF
      generalize proveL (rootsF f) Q.name = OF at *
      generalize proveL (rootsF (writtenL f R)) Q.name = OO at *
      generalize proveL (ofF f Q.name) Q.key = II at *
      generalize rootL (rootsF (writtenL f R)) = RR at *
      generalize (getF (ofF f Q.name) Q.key).getD [] = GV at *
      generalize (getF (ofF f Q.name) Q.key).isSome = GB at *
      have gbb : (GB == GB) = true := by simp
      clear hap
      generalize writtenL f R = X at *
      clear z hN hw0 hq hr hqn hqk hF hS hA hG hR hPr hV ht hne
      go_enter Tryd.func4, Tryd.ntmps4
      go_wp2_with fail
      rw [← HW0.out]
      go_wp2_with fail
      refine (HFO.out _ hgW).mono ?_
      rintro e w1 ⟨v1, rfl, h1, hg1⟩
      obtain ⟨fa, fc, rfl⟩ := h1.shape
      have HT1 : Hid (TensIs w1 (.slice fa f.length fc) f) := h1
      have hg01 := grown_trans hgW hg1
      obtain ⟨⟨p0, p1, p2, p3⟩, _⟩ := quad_room hg1 BP.out
      clear h1
      go_wp2_with fail
      refine (HWP.out _ hg01).mono ?_
      rintro e w2 ⟨qa1, qa2, qa3, qa4, qa5, qa6, rfl, hq1, hq2, hq3, hg2⟩
      obtain ⟨W2, HW2, hgA2, B2⟩ := alloc_named w2 (.cells #[.slice qa1 Q.name.length qa2, .slice qa3 Q.key.length qa4, .bool Q.gone, .slice qa5 Q.value.length qa6] 29)
      have HQ1 : Hid (SliceIs W2 (.slice qa1 Q.name.length qa2) Q.name) := hq1.grown hgA2
      have HQ2 : Hid (SliceIs W2 (.slice qa3 Q.key.length qa4) Q.key) := hq2.grown hgA2
      have HQ3 : Hid (SliceIs W2 (.slice qa5 Q.value.length qa6) Q.value) := hq3.grown hgA2
      have hg12 := grown_trans hg2 hgA2
      have hg02 := grown_trans hg01 hg12
      clear hq1 hq2 hq3 p0 p1 p2 p3
      go_upto_region 3 with fail
      rw [← HW2.out]
      have hgL2 := grown_trans hg1 hg12
      obtain ⟨⟨o0, o1, o2, o3⟩, _⟩ := quad_room hgL2 BO.out
      go_wp2_with fail
      refine (HWO.out _ hg02).mono ?_
      rintro e w3 ⟨ra1, ra2, ra3, ra4, ra5, ra6, rfl, hr1, hr2, hr3, hg3⟩
      obtain ⟨W3, HW3, hgA3, B3⟩ := alloc_named w3 (.cells #[.slice ra1 R.name.length ra2, .slice ra3 R.key.length ra4, .bool R.gone, .slice ra5 R.value.length ra6] 29)
      have HR1 : Hid (SliceIs W3 (.slice ra1 R.name.length ra2) R.name) := hr1.grown hgA3
      have HR2 : Hid (SliceIs W3 (.slice ra3 R.key.length ra4) R.key) := hr2.grown hgA3
      have HR3 : Hid (SliceIs W3 (.slice ra5 R.value.length ra6) R.value) := hr3.grown hgA3
      have hg23 := grown_trans hg3 hgA3
      have hg13 := grown_trans hg12 hg23
      have hg03 := grown_trans hg02 hg23
      clear hr1 hr2 hr3 o0 o1 o2 o3
      go_upto_region 4 with fail
      rw [← HW3.out]
      obtain ⟨⟨b0, b1, b2, b3⟩, _⟩ := quad_room (grown_refl W3 none) B3.out
      have hwr := writes_one W3 _ _ _ R HR1.out HR2.out HR3.out 29
      obtain ⟨W4, HW4, hgA4, _⟩ := alloc_named W3 (.cells #[.slice ra1 R.name.length ra2, .slice ra3 R.key.length ra4, .bool R.gone, .slice ra5 R.value.length ra6] 29)
      rw [← HW4.out] at hwr
      have HWR : Hid (WritesIs W4 (.slice (some ⟨W3.heap.size, 0, none⟩) 1 1) [R]) := hwr
      clear hwr
      go_wp2_with fail
      rw [← HW4.out]
      refine (AP.out _ _ _ (HT1.out.grown (grown_trans hg13 hgA4)) HWR.out).mono ?_
      rintro e w5 ⟨x5, rfl, h5, hg5⟩
      obtain ⟨na5, nc5, rfl⟩ := h5.shape
      have HX5 : Hid (TensIs w5 (.slice na5 X.length nc5) X) := h5
      have hg35 := grown_trans hgA4 hg5
      have hg25 := grown_trans hg23 hg35
      have hg05 := grown_trans hg03 hg35
      have hg15 := grown_trans hg13 hg35
      clear h5 b0 b1 b2 b3
      go_upto_region 5 with fail
      obtain ⟨⟨a0, a1, a2, a3⟩, _⟩ := quad_room hg25 B2.out
      obtain ⟨⟨b0, b1, b2, b3⟩, _⟩ := quad_room hg35 B3.out
      have SMN : Hid (Calls Tryd.prog 12 #[.slice qa1 Q.name.length qa2, .slice ra1 R.name.length ra2] w5 fun e w' => e = .returned (.bool (decide (Q.name = R.name))) ∧ w' = w5) := same_any w5 _ _ _ _ (HQ1.out.grown hg25) (HR1.out.grown hg35)
      go_wp2_with fail
      refine SMN.out.mono ?_
      rintro e w' ⟨rfl, rfl⟩
      rw [decide_eq_false HND.out]
      clear b0 b1 b2 b3 SMN
      go_wp2_with fail
      refine (PVF.out _ _ _ _ hg05 (HT1.out.grown hg15) (HQ1.out.grown hg25) (HQ2.out.grown hg25)).mono ?_
      rintro e w6 ⟨x, y, rfl, hx, hy, hg6⟩
      obtain ⟨x1, x2, x3, x4, x5, x6, rfl⟩ := hx.agg
      obtain ⟨y1, y2, y3, y4, y5, y6, rfl⟩ := hy.agg
      obtain ⟨V6, HV6, hgV6, BX6⟩ := alloc_named w6 (.cells #[.bool OF.empty, .slice x1 OF.steps.length x2, .slice x3 OF.pair.1.length x4, .slice x5 OF.pair.2.length x6] 38)
      obtain ⟨W6, HW6, hgA6, BY6⟩ := alloc_named V6 (.cells #[.bool II.empty, .slice y1 II.steps.length y2, .slice y3 II.pair.1.length y4, .slice y5 II.pair.2.length y6] 38)
      have HVW6 : Hid (W6 = (w6.alloc (.cells #[.bool OF.empty, .slice x1 OF.steps.length x2, .slice x3 OF.pair.1.length x4, .slice x5 OF.pair.2.length x6] 38)).alloc (.cells #[.bool II.empty, .slice y1 II.steps.length y2, .slice y3 II.pair.1.length y4, .slice y5 II.pair.2.length y6] 38)) := by show _ = _; rw [HW6.out, HV6.out]
      have hs6 : V6.heap.size = w6.heap.size + 1 := by rw [HV6.out]; simp
      have hgB6 := grown_trans hgV6 hgA6
      have HPX6 : Hid (ProofIs W6 (.agg #[.bool OF.empty, .slice x1 OF.steps.length x2, .slice x3 OF.pair.1.length x4, .slice x5 OF.pair.2.length x6]) OF) := hx.grown hgB6
      have HPY6 : Hid (ProofIs W6 (.agg #[.bool II.empty, .slice y1 II.steps.length y2, .slice y3 II.pair.1.length y4, .slice y5 II.pair.2.length y6]) II) := hy.grown hgB6
      rw [hs6] at BY6
      have hg56 := grown_trans hg6 hgB6
      have hg06 := grown_trans hg05 hg56
      have hg26 := grown_trans hg25 hg56
      have hg16 := grown_trans hg15 hg56
      clear hx hy hs6 a0 a1 a2 a3
      go_upto_region 8 with fail
      rw [← HVW6.out]
      obtain ⟨⟨a0, a1, a2, a3⟩, _⟩ := quad_room hg26 B2.out
      go_wp2_with fail
      refine (PVX.out _ _ _ _ hg06 (HX5.out.grown hg56) (HQ1.out.grown hg26) (HQ2.out.grown hg26)).mono ?_
      rintro e w7 ⟨x, y, rfl, hx, hy, hg7⟩
      obtain ⟨u1, u2, u3, u4, u5, u6, rfl⟩ := hx.agg
      obtain ⟨t1, t2, t3, t4, t5, t6, rfl⟩ := hy.agg
      obtain ⟨V7, HV7, hgV7, BX7⟩ := alloc_named w7 (.cells #[.bool OO.empty, .slice u1 OO.steps.length u2, .slice u3 OO.pair.1.length u4, .slice u5 OO.pair.2.length u6] 38)
      obtain ⟨W7, HW7, hgA7, BY7⟩ := alloc_named V7 (.cells #[.bool II.empty, .slice t1 II.steps.length t2, .slice t3 II.pair.1.length t4, .slice t5 II.pair.2.length t6] 38)
      have HVW7 : Hid (W7 = (w7.alloc (.cells #[.bool OO.empty, .slice u1 OO.steps.length u2, .slice u3 OO.pair.1.length u4, .slice u5 OO.pair.2.length u6] 38)).alloc (.cells #[.bool II.empty, .slice t1 II.steps.length t2, .slice t3 II.pair.1.length t4, .slice t5 II.pair.2.length t6] 38)) := by show _ = _; rw [HW7.out, HV7.out]
      have hs7 : V7.heap.size = w7.heap.size + 1 := by rw [HV7.out]; simp
      have hgB7 := grown_trans hgV7 hgA7
      have HPX7 : Hid (ProofIs W7 (.agg #[.bool OO.empty, .slice u1 OO.steps.length u2, .slice u3 OO.pair.1.length u4, .slice u5 OO.pair.2.length u6]) OO) := hx.grown hgB7
      have HPY7 : Hid (ProofIs W7 (.agg #[.bool II.empty, .slice t1 II.steps.length t2, .slice t3 II.pair.1.length t4, .slice t5 II.pair.2.length t6]) II) := hy.grown hgB7
      rw [hs7] at BY7
      have hg67 := grown_trans hg7 hgB7
      have hg07 := grown_trans hg06 hg67
      have hg27 := grown_trans hg26 hg67
      have hg17 := grown_trans hg16 hg67
      clear hx hy hs7 a0 a1 a2 a3
      go_upto_region 9 with fail
      rw [← HVW7.out]
      obtain ⟨⟨a0, a1, a2, a3⟩, _⟩ := quad_room hg27 B2.out
      have hg57 := grown_trans hg56 hg67
      go_wp2_with fail
      refine (RT.out _ _ hg07 (HX5.out.grown hg57)).mono ?_
      rintro e w8 ⟨sa, sc, rfl, hr8, hg8⟩
      have HR8 : Hid (SliceIs w8 (.slice sa 32 sc) RR) := hr8
      have hg08 := grown_trans hg07 hg8
      have hg28 := grown_trans hg27 hg8
      have hg68 := grown_trans hg67 hg8
      clear hr8 a0 a1 a2 a3
      obtain ⟨⟨a0, a1, a2, a3⟩, _⟩ := quad_room hg28 B2.out
      obtain ⟨⟨p0, p1, p2, p3⟩, _⟩ := quad_room (grown_trans hgA7 hg8) BX7.out
      obtain ⟨⟨q0, q1, q2, q3⟩, _⟩ := quad_room hg68 BY6.out
      go_wp2_with fail
      refine (VF.out _ _ _ _ _ _ hg08 HR8.out (HQ1.out.grown hg28) (HQ2.out.grown hg28) (HPX7.out.grown hg8) (HPY6.out.grown hg68)).mono ?_
      rintro e w9 ⟨za, zc, rfl, hz, hg9⟩
      obtain ⟨W9, HW9, hgA9, B9⟩ := alloc_named w9 (.cells #[.bool GB, .slice za GV.length zc] 42)
      have HZ9 : Hid (SliceIs W9 (.slice za GV.length zc) GV) := hz.grown hgA9
      have hg89 := grown_trans hg9 hgA9
      have hg29 := grown_trans hg28 hg89
      have hg09 := grown_trans hg08 hg89
      have hg19 := grown_trans (grown_trans hg17 hg8) hg89
      clear hz a0 a1 a2 a3 p0 p1 p2 p3 q0 q1 q2 q3
      go_upto_region 11 with fail
      rw [← HW9.out]
      obtain ⟨⟨a0, a1, a2, a3⟩, _⟩ := quad_room hg29 B2.out
      go_wp2_with fail
      refine (GT.out _ _ _ _ (HT1.out.grown hg19) (HQ1.out.grown hg29) (HQ2.out.grown hg29)).mono ?_
      rintro e w10 ⟨ga, gc, rfl, hz10, hg10⟩
      obtain ⟨W10, HW10, hgA10, B10⟩ := alloc_named w10 (.cells #[.bool GB, .slice ga GV.length gc] 42)
      have HZ10 : Hid (SliceIs W10 (.slice ga GV.length gc) GV) := hz10.grown hgA10
      have hg910 := grown_trans hg10 hgA10
      have hg810 := grown_trans hg89 hg910
      have hg610 := grown_trans hg68 hg810
      have hg710 := grown_trans hg8 hg810
      have hg010 := grown_trans hg09 hg910
      clear hz10 a0 a1 a2 a3
      obtain ⟨⟨p0, p1, p2, p3⟩, _⟩ := quad_room hg610 BY6.out
      obtain ⟨⟨q0, q1, q2, q3⟩, _⟩ := quad_room hg710 BY7.out
      have SP : Hid (Calls Tryd.prog 14 #[.agg #[.slice y3 II.pair.1.length y4, .slice y5 II.pair.2.length y6], .agg #[.slice t3 II.pair.1.length t4, .slice t5 II.pair.2.length t6]] W10 fun e w' => e = .returned (.bool true) ∧ W10.grownBy w' none) := by
        obtain ⟨k1, k2⟩ := HPY6.out.ends
        obtain ⟨k3, k4⟩ := HPY7.out.ends
        have := ksamePair_any W10 _ _ II.pair II.pair ⟨_, _, rfl, k1.grown hg610, k2.grown hg610⟩ ⟨_, _, rfl, k3.grown hg710, k4.grown hg710⟩
        rw [decide_eq_true rfl] at this
        exact this
      go_upto_region 12 with fail
      rw [← HW10.out]
      go_wp2_with fail
      refine SP.out.mono ?_
      rintro e w11 ⟨rfl, hg11⟩
      have hg011 := grown_trans hg010 hg11
      clear p0 p1 p2 p3 q0 q1 q2 q3
      obtain ⟨⟨p0, p1, p2, p3⟩, _⟩ := quad_room (grown_trans hg610 hg11) BY6.out
      obtain ⟨⟨q0, q1, q2, q3⟩, _⟩ := quad_room (grown_trans hg710 hg11) BY7.out
      obtain ⟨c0, c1, _, _⟩ := pair_room (grown_trans hg910 hg11) B9.out
      obtain ⟨d0, d1, _, _⟩ := pair_room hg11 B10.out
      have SM : Hid (Calls Tryd.prog 12 #[.slice za GV.length zc, .slice ga GV.length gc] w11 fun e w' => e = .returned (.bool true) ∧ w' = w11) := by
        have := same_any w11 _ _ GV GV (HZ9.out.grown (grown_trans hg910 hg11)) (HZ10.out.grown hg11)
        rw [decide_eq_true rfl] at this
        exact this
      generalize GV.length = gvl at *
      generalize II.steps.length = isl at *
      have isb : ((isl : Int) == (isl : Int)) = true := by simp
      go_wp2_with fail
      refine SM.out.mono ?_
      rintro e w12 ⟨rfl, rfl⟩
      go_wp2
      go_ret
      exact ⟨rfl, hg011⟩
  · have z11 := (apply_room hF hr hS (by omega) z).1
    rw [if_neg z, z11] at AP
    obtain ⟨X, hX⟩ : ∃ X : FL, X = [] := ⟨_, rfl⟩
    rw [← hX] at AP
    clear z z11 hq hr hqn hqk hF hS hA hG hR hPr hV ht hX
    go_enter Tryd.func4, Tryd.ntmps4
    go_wp2_with fail
    rw [← HW0.out]
    go_wp2_with fail
    refine (HFO.out _ hgW).mono ?_
    rintro e w1 ⟨v1, rfl, h1, hg1⟩
    obtain ⟨fa, fc, rfl⟩ := h1.shape
    have HT1 : Hid (TensIs w1 (.slice fa f.length fc) f) := h1
    have hg01 := grown_trans hgW hg1
    obtain ⟨⟨p0, p1, p2, p3⟩, _⟩ := quad_room hg1 BP.out
    clear h1
    go_wp2_with fail
    refine (HWP.out _ hg01).mono ?_
    rintro e w2 ⟨qa1, qa2, qa3, qa4, qa5, qa6, rfl, hq1, hq2, hq3, hg2⟩
    obtain ⟨W2, HW2, hgA2, B2⟩ := alloc_named w2 (.cells #[.slice qa1 Q.name.length qa2, .slice qa3 Q.key.length qa4, .bool Q.gone, .slice qa5 Q.value.length qa6] 29)
    have HQ1 : Hid (SliceIs W2 (.slice qa1 Q.name.length qa2) Q.name) := hq1.grown hgA2
    have HQ2 : Hid (SliceIs W2 (.slice qa3 Q.key.length qa4) Q.key) := hq2.grown hgA2
    have HQ3 : Hid (SliceIs W2 (.slice qa5 Q.value.length qa6) Q.value) := hq3.grown hgA2
    have hg12 := grown_trans hg2 hgA2
    have hg02 := grown_trans hg01 hg12
    clear hq1 hq2 hq3 p0 p1 p2 p3
    go_upto_region 3 with fail
    rw [← HW2.out]
    have hgL2 := grown_trans hg1 hg12
    obtain ⟨⟨o0, o1, o2, o3⟩, _⟩ := quad_room hgL2 BO.out
    go_wp2_with fail
    refine (HWO.out _ hg02).mono ?_
    rintro e w3 ⟨ra1, ra2, ra3, ra4, ra5, ra6, rfl, hr1, hr2, hr3, hg3⟩
    obtain ⟨W3, HW3, hgA3, B3⟩ := alloc_named w3 (.cells #[.slice ra1 R.name.length ra2, .slice ra3 R.key.length ra4, .bool R.gone, .slice ra5 R.value.length ra6] 29)
    have HR1 : Hid (SliceIs W3 (.slice ra1 R.name.length ra2) R.name) := hr1.grown hgA3
    have HR2 : Hid (SliceIs W3 (.slice ra3 R.key.length ra4) R.key) := hr2.grown hgA3
    have HR3 : Hid (SliceIs W3 (.slice ra5 R.value.length ra6) R.value) := hr3.grown hgA3
    have hg23 := grown_trans hg3 hgA3
    have hg13 := grown_trans hg12 hg23
    have hg03 := grown_trans hg02 hg23
    clear hr1 hr2 hr3 o0 o1 o2 o3
    go_upto_region 4 with fail
    rw [← HW3.out]
    obtain ⟨⟨b0, b1, b2, b3⟩, _⟩ := quad_room (grown_refl W3 none) B3.out
    have hwr := writes_one W3 _ _ _ R HR1.out HR2.out HR3.out 29
    obtain ⟨W4, HW4, hgA4, _⟩ := alloc_named W3 (.cells #[.slice ra1 R.name.length ra2, .slice ra3 R.key.length ra4, .bool R.gone, .slice ra5 R.value.length ra6] 29)
    rw [← HW4.out] at hwr
    have HWR : Hid (WritesIs W4 (.slice (some ⟨W3.heap.size, 0, none⟩) 1 1) [R]) := hwr
    clear hwr
    go_wp2_with fail
    rw [← HW4.out]
    refine (AP.out _ _ _ (HT1.out.grown (grown_trans hg13 hgA4)) HWR.out).mono ?_
    rintro e w5 ⟨x5, rfl, h5, hg5⟩
    obtain ⟨na5, nc5, rfl⟩ := h5.shape
    have HX5 : Hid (TensIs w5 (.slice na5 X.length nc5) X) := h5
    have hg35 := grown_trans hgA4 hg5
    have hg25 := grown_trans hg23 hg35
    have hg05 := grown_trans hg03 hg35
    have hg15 := grown_trans hg13 hg35
    clear h5 b0 b1 b2 b3
    go_upto_region 5 with fail
    obtain ⟨⟨a0, a1, a2, a3⟩, _⟩ := quad_room hg25 B2.out
    obtain ⟨⟨b0, b1, b2, b3⟩, _⟩ := quad_room hg35 B3.out
    go_wp2
    go_ret
    exact ⟨rfl, hg05⟩
end Go.Proofs.YtkkcjnhfbblgiacDoor
