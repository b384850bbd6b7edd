/-
  The walk of canopykeep.ForestHolds, over what the code must keep.
-/
import Derived.Test.YtkkcjnhfbblgiacDoorPart19
import Derived.Test.YtkkcjnhfbblgiacDoorKSame
namespace Go.Proofs.YtkkcjnhfbblgiacDoor
open Go.RowKit
set_option maxRecDepth 100000 in
set_option maxHeartbeats 2000000 in
theorem forestHolds_walk (hA : FApplyOK) (hG : FGetOK) (hR : FRootOK) (hPr : FProveOK) (hV : FVerifyOK) (w : World) (v p : Value) (l : List Plc) (P : Plc) (hv : PlacesIs w v l) (hp : PlaceIs w p P) (hl : FitsQ l) (hP : PlcFits P) (ht : Tabs w) :
    Calls Tryd.prog 3 #[v, p] w fun e w' => e = .returned (.bool true) ∧ w.grownBy w' none := by
  obtain ⟨hF, hS⟩ := mkP_ok l 20
  have HFO : Hid (∀ w', w.grownBy w' none → Calls Tryd.prog 6 #[v, .int .i64 20] w' fun e w'' => ∃ v', e = .returned v' ∧ TensIs w'' v' (mkP l 20) ∧ w'.grownBy w'' none) := fun w' hg => kforest_any hA w' v l 20 (hv.grown hg) hl (by omega)
  have HWP : Hid (∀ w', w.grownBy w' none → Calls Tryd.prog 7 #[p] w' fun e w'' => ∃ na nc ka kc va vc, e = .returned (.agg #[.slice na (writeF P).name.length nc, .slice ka (writeF P).key.length kc, .bool (writeF P).gone, .slice va (writeF P).value.length vc]) ∧ SliceIs w'' (.slice na (writeF P).name.length nc) (writeF P).name ∧ SliceIs w'' (.slice ka (writeF P).key.length kc) (writeF P).key ∧ SliceIs w'' (.slice va (writeF P).value.length vc) (writeF P).value ∧ w'.grownBy w'' none) := fun w' hg => write_of w' p P (hp.grown hg) hP
  have hq := writeF_ok P
  generalize writeF P = Q at *
  obtain ⟨hqn, hqk, _⟩ := (writeE_iff Q).1 hq
  generalize mkP l 20 = f at *
  have RT : Hid (∀ w' v', w.grownBy w' none → TensIs w' v' f → Calls Tryd.prog 8 #[v'] w' fun e w'' => ∃ xa xc, e = .returned (.tuple #[.slice xa 32 xc, .int .i64 0]) ∧ SliceIs w'' (.slice xa 32 xc) (rootL (rootsF f)) ∧ w'.grownBy w'' none) := fun w' v' hg h => FRootOK.of hR w' v' f h hF (ht.grownNone hg)
  have PV : Hid (∀ w' v' r' u', w.grownBy w' none → TensIs w' v' f → SliceIs w' r' Q.name → SliceIs w' u' Q.key → Calls Tryd.prog 9 #[v', r', u'] w' fun e w'' => ∃ x y, e = .returned (.tuple #[x, y, .int .i64 0]) ∧ ProofIs w'' x (proveL (rootsF f) Q.name) ∧ ProofIs w'' y (proveL (ofF f Q.name) Q.key) ∧ w'.grownBy w'' none) := fun w' v' r' u' hg h1 h2 h3 => FProveOK.of hPr w' v' r' u' f _ _ h1 h2 h3 hF hqn hqk (ht.grownNone hg)
  have VF : Hid (∀ w' r' m' u' o' i', w.grownBy w' none → SliceIs w' r' (rootL (rootsF f)) → SliceIs w' m' Q.name → SliceIs w' u' Q.key → ProofIs w' o' (proveL (rootsF f) Q.name) → ProofIs w' i' (proveL (ofF f Q.name) Q.key) → Calls Tryd.prog 10 #[r', m', u', o', i'] w' fun e w'' => ∃ xa xc, e = .returned (.tuple #[.agg #[.bool (getF (ofF f Q.name) Q.key).isSome, .slice xa ((getF (ofF f Q.name) Q.key).getD []).length xc], .int .i64 0]) ∧ SliceIs w'' (.slice xa ((getF (ofF f Q.name) Q.key).getD []).length xc) ((getF (ofF f Q.name) Q.key).getD []) ∧ w'.grownBy w'' none) := fun w' r' m' u' o' i' hg h1 h2 h3 h4 h5 => FVerifyOK.of hV w' r' m' u' o' i' f _ _ hF hqn hqk h1 h2 h3 h4 h5 (ht.grownNone hg)
  have GT : Hid (∀ w' v' r' u', TensIs w' v' f → SliceIs w' r' Q.name → SliceIs w' u' Q.key → Calls Tryd.prog 11 #[v', r', u'] w' fun e w'' => ∃ xa xc, e = .returned (.tuple #[.agg #[.bool (getF (ofF f Q.name) Q.key).isSome, .slice xa ((getF (ofF f Q.name) Q.key).getD []).length xc], .int .i64 0]) ∧ SliceIs w'' (.slice xa ((getF (ofF f Q.name) Q.key).getD []).length xc) ((getF (ofF f Q.name) Q.key).getD []) ∧ w'.grownBy w'' none) := fun w' v' r' u' h1 h2 h3 => FGetOK.of hG w' v' r' u' _ _ _ h1 h2 h3 hF hqn hqk
  generalize proveL (rootsF f) Q.name = OO at *
  generalize proveL (ofF f Q.name) Q.key = II at *
  generalize rootL (rootsF f) = RR at *
  generalize (getF (ofF f Q.name) Q.key).getD [] = GV at *
  generalize (getF (ofF f Q.name) Q.key).isSome = GB at *
  obtain ⟨pa1, pa2, pa3, pa4, pa5, pa6, rfl⟩ := hp.cells
  obtain ⟨la, lc, rfl⟩ := hv.shape
  obtain ⟨W0, hW0⟩ : ∃ W0 : World, W0 = w.alloc (.cells #[.slice pa1 P.name.length pa2, .slice pa3 P.key.length pa4, .slice pa5 P.value.length pa6, .bool P.gone] 25) := ⟨_, rfl⟩
  have HW0 : Hid (W0 = w.alloc (.cells #[.slice pa1 P.name.length pa2, .slice pa3 P.key.length pa4, .slice pa5 P.value.length pa6, .bool P.gone] 25)) := hW0
  have hgW : w.grownBy W0 none := by rw [hW0]; exact World.grownBy_alloc _ _ _
  have BP : Hid (W0.heap[w.heap.size]? = some (.cells #[.slice pa1 P.name.length pa2, .slice pa3 P.key.length pa4, .slice pa5 P.value.length pa6, .bool P.gone] 25)) := by
    show _ = _
    rw [hW0]; exact heap_alloc_new w _
  clear hp hv hW0 hP hl
  generalize P.name.length = pn at *
  generalize P.key.length = pk at *
  generalize P.value.length = pv at *
  generalize P.gone = pg at *
  have gbb : (GB == GB) = true := by simp
  clear hq hqn hqk hF hS hA hG hR hPr hV ht
  go_enter Tryd.func3, Tryd.ntmps3
  go_wp2_with fail
  rw [← HW0.out]
  go_wp2_with fail
  refine (HFO.out _ hgW).mono ?_
  rintro e w1 ⟨v1, rfl, h1, hg1⟩
  obtain ⟨fa, fc, rfl⟩ := h1.shape
  have HT1 : Hid (TensIs w1 (.slice fa f.length fc) f) := h1
  have hg01 := grown_trans hgW hg1
  obtain ⟨⟨p0, p1, p2, p3⟩, _⟩ := quad_room hg1 BP.out
  clear h1
  go_wp2_with fail
  refine (HWP.out _ hg01).mono ?_
  rintro e w2 ⟨qa1, qa2, qa3, qa4, qa5, qa6, rfl, hq1, hq2, hq3, hg2⟩
  obtain ⟨W2, HW2, hgA2, B2⟩ := alloc_named w2 (.cells #[.slice qa1 Q.name.length qa2, .slice qa3 Q.key.length qa4, .bool Q.gone, .slice qa5 Q.value.length qa6] 29)
  have HQ1 : Hid (SliceIs W2 (.slice qa1 Q.name.length qa2) Q.name) := hq1.grown hgA2
  have HQ2 : Hid (SliceIs W2 (.slice qa3 Q.key.length qa4) Q.key) := hq2.grown hgA2
  have HQ3 : Hid (SliceIs W2 (.slice qa5 Q.value.length qa6) Q.value) := hq3.grown hgA2
  have hg12 := grown_trans hg2 hgA2
  have hg02 := grown_trans hg01 hg12
  clear hq1 hq2 hq3 p0 p1 p2 p3
  go_upto_region 3 with fail
  rw [← HW2.out]
  go_wp2_with fail
  refine (RT.out _ _ hg02 (HT1.out.grown hg12)).mono ?_
  rintro e w3 ⟨ra, rc, rfl, hr3, hg3⟩
  have HR3 : Hid (SliceIs w3 (.slice ra 32 rc) RR) := hr3
  have hg03 := grown_trans hg02 hg3
  have hg13 := grown_trans hg12 hg3
  obtain ⟨⟨a0, a1, a2, a3⟩, _⟩ := quad_room hg3 B2.out
  clear hr3
  go_wp2_with fail
  refine (PV.out _ _ _ _ hg03 (HT1.out.grown hg13) (HQ1.out.grown hg3) (HQ2.out.grown hg3)).mono ?_
  rintro e w4 ⟨x, y, rfl, hx, hy, hg4⟩
  obtain ⟨x1, x2, x3, x4, x5, x6, rfl⟩ := hx.agg
  obtain ⟨y1, y2, y3, y4, y5, y6, rfl⟩ := hy.agg
  obtain ⟨W4, HW4, hgA4, B4⟩ := alloc_named w4 (.cells #[.bool OO.empty, .slice x1 OO.steps.length x2, .slice x3 OO.pair.1.length x4, .slice x5 OO.pair.2.length x6] 38)
  obtain ⟨W5, HW5, hgA5, B5⟩ := alloc_named W4 (.cells #[.bool II.empty, .slice y1 II.steps.length y2, .slice y3 II.pair.1.length y4, .slice y5 II.pair.2.length y6] 38)
  have HW45 : Hid (W5 = (w4.alloc (.cells #[.bool OO.empty, .slice x1 OO.steps.length x2, .slice x3 OO.pair.1.length x4, .slice x5 OO.pair.2.length x6] 38)).alloc (.cells #[.bool II.empty, .slice y1 II.steps.length y2, .slice y3 II.pair.1.length y4, .slice y5 II.pair.2.length y6] 38)) := by show _ = _; rw [HW5.out, HW4.out]
  have hs45 : W4.heap.size = w4.heap.size + 1 := by rw [HW4.out]; simp
  have hg45 := grown_trans hgA4 hgA5
  have HX5 : Hid (ProofIs W5 (.agg #[.bool OO.empty, .slice x1 OO.steps.length x2, .slice x3 OO.pair.1.length x4, .slice x5 OO.pair.2.length x6]) OO) := hx.grown hg45
  have HY5 : Hid (ProofIs W5 (.agg #[.bool II.empty, .slice y1 II.steps.length y2, .slice y3 II.pair.1.length y4, .slice y5 II.pair.2.length y6]) II) := hy.grown hg45
  rw [hs45] at B5
  have hg35 := grown_trans hg4 hg45
  have hg05 := grown_trans hg03 hg35
  have hg25 := grown_trans hg3 hg35
  clear hx hy hs45 a0 a1 a2 a3
  go_upto_region 5 with fail
  rw [← HW45.out]
  obtain ⟨⟨a0, a1, a2, a3⟩, _⟩ := quad_room hg25 B2.out
  obtain ⟨⟨p0, p1, p2, p3⟩, _⟩ := quad_room hgA5 B4.out
  obtain ⟨⟨q0, q1, q2, q3⟩, _⟩ := quad_room (grown_refl W5 none) B5.out
  go_wp2_with fail
  refine (VF.out _ _ _ _ _ _ hg05 (HR3.out.grown hg35) (HQ1.out.grown hg25) (HQ2.out.grown hg25) HX5.out HY5.out).mono ?_
  rintro e w6 ⟨za, zc, rfl, hz, hg6⟩
  obtain ⟨W6, HW6, hgA6, B6⟩ := alloc_named w6 (.cells #[.bool GB, .slice za GV.length zc] 42)
  have HZ6 : Hid (SliceIs W6 (.slice za GV.length zc) GV) := hz.grown hgA6
  have hg56 := grown_trans hg6 hgA6
  have hg26 := grown_trans hg25 hg56
  have hg06 := grown_trans hg05 hg56
  clear hz a0 a1 a2 a3 p0 p1 p2 p3 q0 q1 q2 q3
  go_upto_region 6 with fail
  rw [← HW6.out]
  obtain ⟨⟨a0, a1, a2, a3⟩, _⟩ := quad_room hg26 B2.out
  go_wp2_with fail
  refine (GT.out _ _ _ _ (HT1.out.grown (grown_trans hg12 hg26)) (HQ1.out.grown hg26) (HQ2.out.grown hg26)).mono ?_
  rintro e w7 ⟨ga, gc, rfl, hz7, hg7⟩
  obtain ⟨W7, HW7, hgA7, B7⟩ := alloc_named w7 (.cells #[.bool GB, .slice ga GV.length gc] 42)
  have hg67 := grown_trans hg7 hgA7
  obtain ⟨c0, c1, _, _⟩ := pair_room hg67 B6.out
  obtain ⟨d0, d1, _, _⟩ := pair_room (grown_refl W7 none) B7.out
  have SM : Hid (Calls Tryd.prog 12 #[.slice za GV.length zc, .slice ga GV.length gc] W7 fun e w' => e = .returned (.bool true) ∧ w' = W7) := by
    have := same_any W7 _ _ GV GV (HZ6.out.grown hg67) (hz7.grown hgA7)
    rw [decide_eq_true rfl] at this
    exact this
  have hgF := grown_trans hg06 hg67
  clear hz7 a0 a1 a2 a3
  go_upto_region 7 with fail
  rw [← HW7.out]
  generalize GV.length = gvl at *
  go_wp2_with fail
  refine SM.out.mono ?_
  rintro e w8 ⟨rfl, rfl⟩
  go_wp2
  go_ret
  exact ⟨rfl, hgF⟩
end Go.Proofs.YtkkcjnhfbblgiacDoor
