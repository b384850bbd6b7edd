/-
  The walk of canopykeep.ApplyTurns, over what the code must keep.
-/
import Derived.Test.YtkkcjnhfbblgiabLFK
import Derived.Test.YtkkcjnhfbblgiabKSame
import Derived.Test.YtkkcjnhfbblgiabKSameF
import Derived.Test.YtkkcjnhfbblgiabWrMore
namespace Go.Proofs.Ytkkcjnhfbblgiab
open Go.RowKit
set_option maxRecDepth 100000 in
set_option maxHeartbeats 4000000 in
theorem applyTurns_walk (hA : FApplyOK) (w : World) (v p o : Value) (l : List Plc) (P O : Plc) (hv : PlacesIs w v l) (hp : PlaceIs w p P) (ho : PlaceIs w o O) (hl : FitsQ l) (hP : PlcFits P) (hO : PlcFits O) :
    Calls Try.prog 5 #[v, p, o] w fun e w' => e = .returned (.bool true) ∧ w.grownBy w' none := by
  obtain ⟨hF, hS⟩ := mkP_ok l 20
  have HFO : Hid (∀ w', w.grownBy w' none → Calls Try.prog 6 #[v, .int .i64 20] w' fun e w'' => ∃ v', e = .returned v' ∧ TensIs w'' v' (mkP l 20) ∧ w'.grownBy w'' none) := fun w' hg => kforest_any hA w' v l 20 (hv.grown hg) hl (by omega)
  have HWP : Hid (∀ w', w.grownBy w' none → Calls Try.prog 7 #[p] w' fun e w'' => ∃ na nc ka kc va vc, e = .returned (.agg #[.slice na (writeF P).name.length nc, .slice ka (writeF P).key.length kc, .bool (writeF P).gone, .slice va (writeF P).value.length vc]) ∧ SliceIs w'' (.slice na (writeF P).name.length nc) (writeF P).name ∧ SliceIs w'' (.slice ka (writeF P).key.length kc) (writeF P).key ∧ SliceIs w'' (.slice va (writeF P).value.length vc) (writeF P).value ∧ w'.grownBy w'' none) := fun w' hg => write_of w' p P (hp.grown hg) hP
  have HWO : Hid (∀ w', w.grownBy w' none → Calls Try.prog 7 #[o] w' fun e w'' => ∃ na nc ka kc va vc, e = .returned (.agg #[.slice na (writeF O).name.length nc, .slice ka (writeF O).key.length kc, .bool (writeF O).gone, .slice va (writeF O).value.length vc]) ∧ SliceIs w'' (.slice na (writeF O).name.length nc) (writeF O).name ∧ SliceIs w'' (.slice ka (writeF O).key.length kc) (writeF O).key ∧ SliceIs w'' (.slice va (writeF O).value.length vc) (writeF O).value ∧ w'.grownBy w'' none) := fun w' hg => write_of w' o O (ho.grown hg) hO
  have hq := writeF_ok P
  have hr := writeF_ok O
  generalize writeF P = Q at *
  generalize writeF O = R at *
  generalize mkP l 20 = f at *
  have AP1 : Hid (∀ w' v' u', TensIs w' v' f → WritesIs w' u' [Q, R] → Calls Try.prog 8 #[v', u'] w' fun e w'' => ∃ x, e = .returned (.tuple #[x, .int .i64 (applyE f [Q, R])]) ∧ TensIs w'' x (if applyE f [Q, R] = 0 then applyL f [Q, R] else []) ∧ w'.grownBy w'' none) := fun w' v' u' h1 h2 => FApplyOK.of hA w' v' u' f _ h1 h2 hF (fun x hx => by simp at hx; rcases hx with rfl | rfl; exact hq; exact hr) (by simp)
  have AP2 : Hid (∀ w' v' u', TensIs w' v' f → WritesIs w' u' [R, Q] → Calls Try.prog 8 #[v', u'] w' fun e w'' => ∃ x, e = .returned (.tuple #[x, .int .i64 (applyE f [R, Q])]) ∧ TensIs w'' x (if applyE f [R, Q] = 0 then applyL f [R, Q] else []) ∧ w'.grownBy w'' none) := fun w' v' u' h1 h2 => FApplyOK.of hA w' v' u' f _ h1 h2 hF (fun x hx => by simp at hx; rcases hx with rfl | rfl; exact hr; exact hq) (by simp)
  have AP3 : Hid (∀ w' v' u', TensIs w' v' f → WritesIs w' u' (List.replicate 11 noPlc) → Calls Try.prog 8 #[v', u'] w' fun e w'' => ∃ x, e = .returned (.tuple #[x, .int .i64 1]) ∧ TensIs w'' x [] ∧ w'.grownBy w'' none) := fun w' v' u' h1 h2 => by
    have e1 : appliedE f (List.replicate 11 noPlc) = 1 := by rw [appliedE, if_pos ((forest_iff f).2 hF), if_pos (by simp)]
    have e2 : appliedF f (List.replicate 11 noPlc) = [] := by rw [appliedF, e1]; rfl
    have := hA w' v' u' f _ h1 h2 hF.fits ⟨by simp, fun i hi => by
      have hi' : i < 11 := by simpa using hi
      rw [show (List.replicate 11 noPlc).getD i noPlc = noPlc by rw [List.getD_eq_getElem?_getD, List.getElem?_replicate, if_pos hi']; rfl]
      exact ⟨by simp [noPlc], by simp [noPlc], by simp [noPlc]⟩⟩
    rw [e1, e2] at this
    exact this
  have hturn := fun h1 h2 hne => apply_turns (l := f) hF hq hr h1 h2 hne
  have hfit : applyE f [Q, R] = 0 → FitsT (applyL f [Q, R]) := fun h => (apply_forest _ _ hF h).fits
  obtain ⟨pa1, pa2, pa3, pa4, pa5, pa6, rfl⟩ := hp.cells
  obtain ⟨oa1, oa2, oa3, oa4, oa5, oa6, rfl⟩ := ho.cells
  obtain ⟨la, lc, rfl⟩ := hv.shape
  obtain ⟨W0, hW0⟩ : ∃ W0 : World, W0 = (w.alloc (.cells #[.slice pa1 P.name.length pa2, .slice pa3 P.key.length pa4, .slice pa5 P.value.length pa6, .bool P.gone] 25)).alloc (.cells #[.slice oa1 O.name.length oa2, .slice oa3 O.key.length oa4, .slice oa5 O.value.length oa6, .bool O.gone] 25) := ⟨_, rfl⟩
  have HW0 : Hid (W0 = (w.alloc (.cells #[.slice pa1 P.name.length pa2, .slice pa3 P.key.length pa4, .slice pa5 P.value.length pa6, .bool P.gone] 25)).alloc (.cells #[.slice oa1 O.name.length oa2, .slice oa3 O.key.length oa4, .slice oa5 O.value.length oa6, .bool O.gone] 25)) := hW0
  have hgW : w.grownBy W0 none := by rw [hW0]; exact grown_alloc (World.grownBy_alloc _ _ _) _
  have BP : Hid (W0.heap[w.heap.size]? = some (.cells #[.slice pa1 P.name.length pa2, .slice pa3 P.key.length pa4, .slice pa5 P.value.length pa6, .bool P.gone] 25)) := by
    show _ = _
    rw [hW0, (World.grownBy_alloc _ _ none).block _ (by simp) (by simp)]; exact heap_alloc_new w _
  have BO : Hid (W0.heap[w.heap.size + 1]? = some (.cells #[.slice oa1 O.name.length oa2, .slice oa3 O.key.length oa4, .slice oa5 O.value.length oa6, .bool O.gone] 25)) := by
    have := heap_alloc_new (w.alloc (.cells #[.slice pa1 P.name.length pa2, .slice pa3 P.key.length pa4, .slice pa5 P.value.length pa6, .bool P.gone] 25)) (.cells #[.slice oa1 O.name.length oa2, .slice oa3 O.key.length oa4, .slice oa5 O.value.length oa6, .bool O.gone] 25)
    rw [World.size_alloc] at this
    show _ = _
    rw [hW0]; exact this
  clear hp ho hv hW0 hP hO hl
  generalize P.name.length = pn at *
  generalize P.key.length = pk at *
  generalize P.value.length = pv at *
  generalize P.gone = pg at *
  generalize O.name.length = on at *
  generalize O.key.length = ok at *
  generalize O.value.length = ov at *
  generalize O.gone = og at *
  have hroom := hF.room
  have HND : Hid (Q.name = R.name ∨ ¬ Q.name = R.name) := Classical.em _
  have HKD : Hid (Q.key = R.key ∨ ¬ Q.key = R.key) := Classical.em _
  by_cases z1 : applyE f [Q, R] = 0
  · rw [z1, if_pos rfl] at AP1
    by_cases z2 : applyE f [R, Q] = 0
    · rw [z2, if_pos rfl] at AP2
      have HXY : Hid (¬ (Q.name = R.name ∧ Q.key = R.key) → applyL f [Q, R] = applyL f [R, Q]) := fun h => hturn z1 z2 h
      have HFX : Hid (FitsT (applyL f [Q, R])) := hfit z1
      generalize applyL f [Q, R] = X at *
      generalize applyL f [R, Q] = Y at *
      clear z1 z2 hturn hfit hq hr hF hS hA
      go_enter Try.func5, Try.ntmps5
      go_wp2_with fail
      rw [← HW0.out]
      go_wp2_with fail
      refine (HFO.out _ hgW).mono ?_
      rintro e w1 ⟨v1, rfl, h1, hg1⟩
      obtain ⟨fa, fc, rfl⟩ := h1.shape
      have HT1 : Hid (TensIs w1 (.slice fa f.length fc) f) := h1
      have hg01 := grown_trans hgW hg1
      obtain ⟨⟨p0, p1, p2, p3⟩, _⟩ := quad_room hg1 BP.out
      clear h1
      go_wp2_with fail
      refine (HWP.out _ hg01).mono ?_
      rintro e w2 ⟨qa1, qa2, qa3, qa4, qa5, qa6, rfl, hq1, hq2, hq3, hg2⟩
      obtain ⟨W2, HW2, hgA2, B2⟩ := alloc_named w2 (.cells #[.slice qa1 Q.name.length qa2, .slice qa3 Q.key.length qa4, .bool Q.gone, .slice qa5 Q.value.length qa6] 29)
      have HQ1 : Hid (SliceIs W2 (.slice qa1 Q.name.length qa2) Q.name) := hq1.grown hgA2
      have HQ2 : Hid (SliceIs W2 (.slice qa3 Q.key.length qa4) Q.key) := hq2.grown hgA2
      have HQ3 : Hid (SliceIs W2 (.slice qa5 Q.value.length qa6) Q.value) := hq3.grown hgA2
      have hg12 := grown_trans hg2 hgA2
      have hg02 := grown_trans hg01 hg12
      clear hq1 hq2 hq3 p0 p1 p2 p3
      go_upto_region 3 with fail
      rw [← HW2.out]
      have hgL2 := grown_trans hg1 hg12
      obtain ⟨⟨o0, o1, o2, o3⟩, _⟩ := quad_room hgL2 BO.out
      go_wp2_with fail
      refine (HWO.out _ hg02).mono ?_
      rintro e w3 ⟨ra1, ra2, ra3, ra4, ra5, ra6, rfl, hr1, hr2, hr3, hg3⟩
      obtain ⟨W3, HW3, hgA3, B3⟩ := alloc_named w3 (.cells #[.slice ra1 R.name.length ra2, .slice ra3 R.key.length ra4, .bool R.gone, .slice ra5 R.value.length ra6] 29)
      have HR1 : Hid (SliceIs W3 (.slice ra1 R.name.length ra2) R.name) := hr1.grown hgA3
      have HR2 : Hid (SliceIs W3 (.slice ra3 R.key.length ra4) R.key) := hr2.grown hgA3
      have HR3 : Hid (SliceIs W3 (.slice ra5 R.value.length ra6) R.value) := hr3.grown hgA3
      have hg23 := grown_trans hg3 hgA3
      have hg13 := grown_trans hg12 hg23
      have hg03 := grown_trans hg02 hg23
      clear hr1 hr2 hr3 o0 o1 o2 o3
      go_upto_region 4 with fail
      rw [← HW3.out]
      obtain ⟨⟨a0, a1, a2, a3⟩, _⟩ := quad_room hg23 B2.out
      obtain ⟨⟨b0, b1, b2, b3⟩, _⟩ := quad_room (grown_refl W3 none) B3.out
      have hwr := writes_two W3 _ _ _ _ _ _ Q R (HQ1.out.grown hg23) (HQ2.out.grown hg23) (HQ3.out.grown hg23) HR1.out HR2.out HR3.out 29
      obtain ⟨W4, HW4, hgA4, _⟩ := alloc_named W3 (.cells #[.slice qa1 Q.name.length qa2, .slice qa3 Q.key.length qa4, .bool Q.gone, .slice qa5 Q.value.length qa6, .slice ra1 R.name.length ra2, .slice ra3 R.key.length ra4, .bool R.gone, .slice ra5 R.value.length ra6] 29)
      rw [← HW4.out] at hwr
      have HWR : Hid (WritesIs W4 (.slice (some ⟨W3.heap.size, 0, none⟩) 2 2) [Q, R]) := hwr
      clear hwr
      go_wp2_with fail
      rw [← HW4.out]
      refine (AP1.out _ _ _ (HT1.out.grown (grown_trans hg13 hgA4)) HWR.out).mono ?_
      rintro e w5 ⟨x5, rfl, h5, hg5⟩
      obtain ⟨na5, nc5, rfl⟩ := h5.shape
      have HX5 : Hid (TensIs w5 (.slice na5 X.length nc5) X) := h5
      have hg35 := grown_trans hgA4 hg5
      have hg25 := grown_trans hg23 hg35
      have hg05 := grown_trans hg03 hg35
      have hg15 := grown_trans hg13 hg35
      clear h5 a0 a1 a2 a3 b0 b1 b2 b3
      go_upto_region 5 with fail
      obtain ⟨⟨a0, a1, a2, a3⟩, _⟩ := quad_room hg25 B2.out
      obtain ⟨⟨b0, b1, b2, b3⟩, _⟩ := quad_room hg35 B3.out
      have hwr := writes_two w5 _ _ _ _ _ _ R Q (HR1.out.grown hg35) (HR2.out.grown hg35) (HR3.out.grown hg35) (HQ1.out.grown hg25) (HQ2.out.grown hg25) (HQ3.out.grown hg25) 29
      obtain ⟨W6, HW6, hgA6, _⟩ := alloc_named w5 (.cells #[.slice ra1 R.name.length ra2, .slice ra3 R.key.length ra4, .bool R.gone, .slice ra5 R.value.length ra6, .slice qa1 Q.name.length qa2, .slice qa3 Q.key.length qa4, .bool Q.gone, .slice qa5 Q.value.length qa6] 29)
      rw [← HW6.out] at hwr
      have HWR2 : Hid (WritesIs W6 (.slice (some ⟨w5.heap.size, 0, none⟩) 2 2) [R, Q]) := hwr
      clear hwr
      go_wp2_with fail
      rw [← HW6.out]
      refine (AP2.out _ _ _ (HT1.out.grown (grown_trans hg15 hgA6)) HWR2.out).mono ?_
      rintro e w7 ⟨y7, rfl, h7, hg7⟩
      obtain ⟨na7, nc7, rfl⟩ := h7.shape
      have HY7 : Hid (TensIs w7 (.slice na7 Y.length nc7) Y) := h7
      have hg57 := grown_trans hgA6 hg7
      have hg07 := grown_trans hg05 hg57
      have hg17 := grown_trans hg15 hg57
      clear h7 a0 a1 a2 a3 b0 b1 b2 b3
      go_upto_region 6 with fail
      have mk := make_wr w7
      have hwr := writes_none w7 29
      obtain ⟨W8, HW8, hgA8, _⟩ := alloc_named w7 (.cells noWrites 29)
      rw [← HW8.out] at hwr mk
      have HWR3 : Hid (WritesIs W8 (.slice (some ⟨w7.heap.size, 0, none⟩) 11 11) (List.replicate 11 noPlc)) := hwr
      clear hwr
      go_wp2_with fail
      refine (AP3.out _ _ _ (HT1.out.grown (grown_trans hg17 hgA8)) HWR3.out).mono ?_
      rintro e w9 ⟨z9, rfl, h9, hg9⟩
      obtain ⟨na9, nc9, rfl⟩ := h9.shape
      have hg79 := grown_trans hgA8 hg9
      have hg59 := grown_trans hg57 hg79
      have hg39 := grown_trans hg35 hg59
      have hg29 := grown_trans hg23 hg39
      have hg09 := grown_trans hg07 hg79
      obtain ⟨⟨a0, a1, a2, a3⟩, _⟩ := quad_room hg29 B2.out
      obtain ⟨⟨b0, b1, b2, b3⟩, _⟩ := quad_room hg39 B3.out
      have SMN : Hid (Calls Try.prog 11 #[.slice qa1 Q.name.length qa2, .slice ra1 R.name.length ra2] w9 fun e w' => e = .returned (.bool (decide (Q.name = R.name))) ∧ w' = w9) := same_any w9 _ _ _ _ (HQ1.out.grown hg29) (HR1.out.grown hg39)
      have SMK : Hid (Calls Try.prog 11 #[.slice qa3 Q.key.length qa4, .slice ra3 R.key.length ra4] w9 fun e w' => e = .returned (.bool (decide (Q.key = R.key))) ∧ w' = w9) := same_any w9 _ _ _ _ (HQ2.out.grown hg29) (HR2.out.grown hg39)
      have SF : Hid (X = Y → FitsT X → Calls Try.prog 13 #[.slice na5 X.length nc5, .slice na7 Y.length nc7] w9 fun e w' => e = .returned (.bool true) ∧ w9.grownBy w' none) := fun h hf => by
        have h1 := HX5.out.grown hg59
        have h2 := HY7.out.grown hg79
        rw [← h] at h2
        have h3 := sameForest_same w9 _ _ X h1 h2 hf
        rw [← h]
        exact h3
      clear hg9 hgA8 mk hg7 hg57 hgA6 hg17 hg07 hg15 hg05 hg25 hg35 hg5 hgA4 hg03 hg13 hg23 hgA3 hg3 hgL2 hg02 hg12 hgA2 hg2 hg01 hg1 hgW h9
      go_wp2_with fail
      refine SMN.out.mono ?_
      rintro e w' ⟨rfl, rfl⟩
      rcases HND.out with hn | hn
      · rw [decide_eq_true hn]
        go_wp2_with fail
        refine SMK.out.mono ?_
        rintro e w' ⟨rfl, rfl⟩
        rcases HKD.out with hk | hk
        · rw [decide_eq_true hk]
          clear hn hk
          go_wp2
          go_ret
          exact ⟨rfl, hg09⟩
        · rw [decide_eq_false hk]
          have HNE : Hid (¬ (Q.name = R.name ∧ Q.key = R.key)) := fun h => hk h.2
          clear hn hk
          go_wp2_with fail
          refine (SF.out (HXY.out HNE.out) HFX.out).mono ?_
          rintro e w10 ⟨rfl, hg10⟩
          go_wp2
          go_ret
          exact ⟨rfl, grown_trans hg09 hg10⟩
      · rw [decide_eq_false hn]
        have HNE : Hid (¬ (Q.name = R.name ∧ Q.key = R.key)) := fun h => hn h.1
        clear hn
        go_wp2_with fail
        refine (SF.out (HXY.out HNE.out) HFX.out).mono ?_
        rintro e w10 ⟨rfl, hg10⟩
        go_wp2
        go_ret
        exact ⟨rfl, grown_trans hg09 hg10⟩
    · rw [if_neg z2] at AP2
      generalize applyL f [Q, R] = X at *
      obtain ⟨Y, hY⟩ : ∃ Y : FL, Y = [] := ⟨_, rfl⟩
      rw [← hY] at AP2
      generalize applyE f [R, Q] = z at *
      have hz' : (z != 0) = true := by simpa using z2
      clear z1 z2 hturn hfit hq hr hF hS hA hY
      go_enter Try.func5, Try.ntmps5
      go_wp2_with fail
      rw [← HW0.out]
      go_wp2_with fail
      refine (HFO.out _ hgW).mono ?_
      rintro e w1 ⟨v1, rfl, h1, hg1⟩
      obtain ⟨fa, fc, rfl⟩ := h1.shape
      have HT1 : Hid (TensIs w1 (.slice fa f.length fc) f) := h1
      have hg01 := grown_trans hgW hg1
      obtain ⟨⟨p0, p1, p2, p3⟩, _⟩ := quad_room hg1 BP.out
      clear h1
      go_wp2_with fail
      refine (HWP.out _ hg01).mono ?_
      rintro e w2 ⟨qa1, qa2, qa3, qa4, qa5, qa6, rfl, hq1, hq2, hq3, hg2⟩
      obtain ⟨W2, HW2, hgA2, B2⟩ := alloc_named w2 (.cells #[.slice qa1 Q.name.length qa2, .slice qa3 Q.key.length qa4, .bool Q.gone, .slice qa5 Q.value.length qa6] 29)
      have HQ1 : Hid (SliceIs W2 (.slice qa1 Q.name.length qa2) Q.name) := hq1.grown hgA2
      have HQ2 : Hid (SliceIs W2 (.slice qa3 Q.key.length qa4) Q.key) := hq2.grown hgA2
      have HQ3 : Hid (SliceIs W2 (.slice qa5 Q.value.length qa6) Q.value) := hq3.grown hgA2
      have hg12 := grown_trans hg2 hgA2
      have hg02 := grown_trans hg01 hg12
      clear hq1 hq2 hq3 p0 p1 p2 p3
      go_upto_region 3 with fail
      rw [← HW2.out]
      have hgL2 := grown_trans hg1 hg12
      obtain ⟨⟨o0, o1, o2, o3⟩, _⟩ := quad_room hgL2 BO.out
      go_wp2_with fail
      refine (HWO.out _ hg02).mono ?_
      rintro e w3 ⟨ra1, ra2, ra3, ra4, ra5, ra6, rfl, hr1, hr2, hr3, hg3⟩
      obtain ⟨W3, HW3, hgA3, B3⟩ := alloc_named w3 (.cells #[.slice ra1 R.name.length ra2, .slice ra3 R.key.length ra4, .bool R.gone, .slice ra5 R.value.length ra6] 29)
      have HR1 : Hid (SliceIs W3 (.slice ra1 R.name.length ra2) R.name) := hr1.grown hgA3
      have HR2 : Hid (SliceIs W3 (.slice ra3 R.key.length ra4) R.key) := hr2.grown hgA3
      have HR3 : Hid (SliceIs W3 (.slice ra5 R.value.length ra6) R.value) := hr3.grown hgA3
      have hg23 := grown_trans hg3 hgA3
      have hg13 := grown_trans hg12 hg23
      have hg03 := grown_trans hg02 hg23
      clear hr1 hr2 hr3 o0 o1 o2 o3
      go_upto_region 4 with fail
      rw [← HW3.out]
      obtain ⟨⟨a0, a1, a2, a3⟩, _⟩ := quad_room hg23 B2.out
      obtain ⟨⟨b0, b1, b2, b3⟩, _⟩ := quad_room (grown_refl W3 none) B3.out
      have hwr := writes_two W3 _ _ _ _ _ _ Q R (HQ1.out.grown hg23) (HQ2.out.grown hg23) (HQ3.out.grown hg23) HR1.out HR2.out HR3.out 29
      obtain ⟨W4, HW4, hgA4, _⟩ := alloc_named W3 (.cells #[.slice qa1 Q.name.length qa2, .slice qa3 Q.key.length qa4, .bool Q.gone, .slice qa5 Q.value.length qa6, .slice ra1 R.name.length ra2, .slice ra3 R.key.length ra4, .bool R.gone, .slice ra5 R.value.length ra6] 29)
      rw [← HW4.out] at hwr
      have HWR : Hid (WritesIs W4 (.slice (some ⟨W3.heap.size, 0, none⟩) 2 2) [Q, R]) := hwr
      clear hwr
      go_wp2_with fail
      rw [← HW4.out]
      refine (AP1.out _ _ _ (HT1.out.grown (grown_trans hg13 hgA4)) HWR.out).mono ?_
      rintro e w5 ⟨x5, rfl, h5, hg5⟩
      obtain ⟨na5, nc5, rfl⟩ := h5.shape
      have HX5 : Hid (TensIs w5 (.slice na5 X.length nc5) X) := h5
      have hg35 := grown_trans hgA4 hg5
      have hg25 := grown_trans hg23 hg35
      have hg05 := grown_trans hg03 hg35
      have hg15 := grown_trans hg13 hg35
      clear h5 a0 a1 a2 a3 b0 b1 b2 b3
      go_upto_region 5 with fail
      obtain ⟨⟨a0, a1, a2, a3⟩, _⟩ := quad_room hg25 B2.out
      obtain ⟨⟨b0, b1, b2, b3⟩, _⟩ := quad_room hg35 B3.out
      have hwr := writes_two w5 _ _ _ _ _ _ R Q (HR1.out.grown hg35) (HR2.out.grown hg35) (HR3.out.grown hg35) (HQ1.out.grown hg25) (HQ2.out.grown hg25) (HQ3.out.grown hg25) 29
      obtain ⟨W6, HW6, hgA6, _⟩ := alloc_named w5 (.cells #[.slice ra1 R.name.length ra2, .slice ra3 R.key.length ra4, .bool R.gone, .slice ra5 R.value.length ra6, .slice qa1 Q.name.length qa2, .slice qa3 Q.key.length qa4, .bool Q.gone, .slice qa5 Q.value.length qa6] 29)
      rw [← HW6.out] at hwr
      have HWR2 : Hid (WritesIs W6 (.slice (some ⟨w5.heap.size, 0, none⟩) 2 2) [R, Q]) := hwr
      clear hwr
      go_wp2_with fail
      rw [← HW6.out]
      refine (AP2.out _ _ _ (HT1.out.grown (grown_trans hg15 hgA6)) HWR2.out).mono ?_
      rintro e w7 ⟨y7, rfl, h7, hg7⟩
      obtain ⟨na7, nc7, rfl⟩ := h7.shape
      have HY7 : Hid (TensIs w7 (.slice na7 Y.length nc7) Y) := h7
      have hg57 := grown_trans hgA6 hg7
      have hg07 := grown_trans hg05 hg57
      have hg17 := grown_trans hg15 hg57
      clear h7 a0 a1 a2 a3 b0 b1 b2 b3
      go_upto_region 6 with fail
      have mk := make_wr w7
      have hwr := writes_none w7 29
      obtain ⟨W8, HW8, hgA8, _⟩ := alloc_named w7 (.cells noWrites 29)
      rw [← HW8.out] at hwr mk
      have HWR3 : Hid (WritesIs W8 (.slice (some ⟨w7.heap.size, 0, none⟩) 11 11) (List.replicate 11 noPlc)) := hwr
      clear hwr
      go_wp2_with fail
      refine (AP3.out _ _ _ (HT1.out.grown (grown_trans hg17 hgA8)) HWR3.out).mono ?_
      rintro e w9 ⟨z9, rfl, h9, hg9⟩
      obtain ⟨na9, nc9, rfl⟩ := h9.shape
      have hg79 := grown_trans hgA8 hg9
      have hg59 := grown_trans hg57 hg79
      have hg39 := grown_trans hg35 hg59
      have hg29 := grown_trans hg23 hg39
      have hg09 := grown_trans hg07 hg79
      obtain ⟨⟨a0, a1, a2, a3⟩, _⟩ := quad_room hg29 B2.out
      obtain ⟨⟨b0, b1, b2, b3⟩, _⟩ := quad_room hg39 B3.out
      have SMN : Hid (Calls Try.prog 11 #[.slice qa1 Q.name.length qa2, .slice ra1 R.name.length ra2] w9 fun e w' => e = .returned (.bool (decide (Q.name = R.name))) ∧ w' = w9) := same_any w9 _ _ _ _ (HQ1.out.grown hg29) (HR1.out.grown hg39)
      have SMK : Hid (Calls Try.prog 11 #[.slice qa3 Q.key.length qa4, .slice ra3 R.key.length ra4] w9 fun e w' => e = .returned (.bool (decide (Q.key = R.key))) ∧ w' = w9) := same_any w9 _ _ _ _ (HQ2.out.grown hg29) (HR2.out.grown hg39)
      have SF : Hid (X = Y → FitsT X → Calls Try.prog 13 #[.slice na5 X.length nc5, .slice na7 Y.length nc7] w9 fun e w' => e = .returned (.bool true) ∧ w9.grownBy w' none) := fun h hf => by
        have h1 := HX5.out.grown hg59
        have h2 := HY7.out.grown hg79
        rw [← h] at h2
        have h3 := sameForest_same w9 _ _ X h1 h2 hf
        rw [← h]
        exact h3
      clear hg9 hgA8 mk hg7 hg57 hgA6 hg17 hg07 hg15 hg05 hg25 hg35 hg5 hgA4 hg03 hg13 hg23 hgA3 hg3 hgL2 hg02 hg12 hgA2 hg2 hg01 hg1 hgW h9
      go_wp2_with fail
      refine SMN.out.mono ?_
      rintro e w' ⟨rfl, rfl⟩
      rcases HND.out with hn | hn
      · rw [decide_eq_true hn]
        go_wp2_with fail
        refine SMK.out.mono ?_
        rintro e w' ⟨rfl, rfl⟩
        rcases HKD.out with hk | hk
        · rw [decide_eq_true hk]
          clear hn hk
          go_wp2
          go_ret
          exact ⟨rfl, hg09⟩
        · rw [decide_eq_false hk]
          have HNE : Hid (¬ (Q.name = R.name ∧ Q.key = R.key)) := fun h => hk h.2
          clear hn hk
          go_wp2
          go_ret
          exact ⟨rfl, hg09⟩
      · rw [decide_eq_false hn]
        have HNE : Hid (¬ (Q.name = R.name ∧ Q.key = R.key)) := fun h => hn h.1
        clear hn
        go_wp2
        go_ret
        exact ⟨rfl, hg09⟩
  · rw [if_neg z1] at AP1
    obtain ⟨Y, hY⟩ : ∃ Y : FL, Y = (if applyE f [R, Q] = 0 then applyL f [R, Q] else []) := ⟨_, rfl⟩
    rw [← hY] at AP2
    obtain ⟨X, hX⟩ : ∃ X : FL, X = [] := ⟨_, rfl⟩
    rw [← hX] at AP1
    generalize applyE f [R, Q] = z2 at *
    generalize applyE f [Q, R] = z at *
    have hz' : (z != 0) = true := by simpa using z1
    clear z1 hturn hfit hq hr hF hS hA hY hX
    go_enter Try.func5, Try.ntmps5
    go_wp2_with fail
    rw [← HW0.out]
    go_wp2_with fail
    refine (HFO.out _ hgW).mono ?_
    rintro e w1 ⟨v1, rfl, h1, hg1⟩
    obtain ⟨fa, fc, rfl⟩ := h1.shape
    have HT1 : Hid (TensIs w1 (.slice fa f.length fc) f) := h1
    have hg01 := grown_trans hgW hg1
    obtain ⟨⟨p0, p1, p2, p3⟩, _⟩ := quad_room hg1 BP.out
    clear h1
    go_wp2_with fail
    refine (HWP.out _ hg01).mono ?_
    rintro e w2 ⟨qa1, qa2, qa3, qa4, qa5, qa6, rfl, hq1, hq2, hq3, hg2⟩
    obtain ⟨W2, HW2, hgA2, B2⟩ := alloc_named w2 (.cells #[.slice qa1 Q.name.length qa2, .slice qa3 Q.key.length qa4, .bool Q.gone, .slice qa5 Q.value.length qa6] 29)
    have HQ1 : Hid (SliceIs W2 (.slice qa1 Q.name.length qa2) Q.name) := hq1.grown hgA2
    have HQ2 : Hid (SliceIs W2 (.slice qa3 Q.key.length qa4) Q.key) := hq2.grown hgA2
    have HQ3 : Hid (SliceIs W2 (.slice qa5 Q.value.length qa6) Q.value) := hq3.grown hgA2
    have hg12 := grown_trans hg2 hgA2
    have hg02 := grown_trans hg01 hg12
    clear hq1 hq2 hq3 p0 p1 p2 p3
    go_upto_region 3 with fail
    rw [← HW2.out]
    have hgL2 := grown_trans hg1 hg12
    obtain ⟨⟨o0, o1, o2, o3⟩, _⟩ := quad_room hgL2 BO.out
    go_wp2_with fail
    refine (HWO.out _ hg02).mono ?_
    rintro e w3 ⟨ra1, ra2, ra3, ra4, ra5, ra6, rfl, hr1, hr2, hr3, hg3⟩
    obtain ⟨W3, HW3, hgA3, B3⟩ := alloc_named w3 (.cells #[.slice ra1 R.name.length ra2, .slice ra3 R.key.length ra4, .bool R.gone, .slice ra5 R.value.length ra6] 29)
    have HR1 : Hid (SliceIs W3 (.slice ra1 R.name.length ra2) R.name) := hr1.grown hgA3
    have HR2 : Hid (SliceIs W3 (.slice ra3 R.key.length ra4) R.key) := hr2.grown hgA3
    have HR3 : Hid (SliceIs W3 (.slice ra5 R.value.length ra6) R.value) := hr3.grown hgA3
    have hg23 := grown_trans hg3 hgA3
    have hg13 := grown_trans hg12 hg23
    have hg03 := grown_trans hg02 hg23
    clear hr1 hr2 hr3 o0 o1 o2 o3
    go_upto_region 4 with fail
    rw [← HW3.out]
    obtain ⟨⟨a0, a1, a2, a3⟩, _⟩ := quad_room hg23 B2.out
    obtain ⟨⟨b0, b1, b2, b3⟩, _⟩ := quad_room (grown_refl W3 none) B3.out
    have hwr := writes_two W3 _ _ _ _ _ _ Q R (HQ1.out.grown hg23) (HQ2.out.grown hg23) (HQ3.out.grown hg23) HR1.out HR2.out HR3.out 29
    obtain ⟨W4, HW4, hgA4, _⟩ := alloc_named W3 (.cells #[.slice qa1 Q.name.length qa2, .slice qa3 Q.key.length qa4, .bool Q.gone, .slice qa5 Q.value.length qa6, .slice ra1 R.name.length ra2, .slice ra3 R.key.length ra4, .bool R.gone, .slice ra5 R.value.length ra6] 29)
    rw [← HW4.out] at hwr
    have HWR : Hid (WritesIs W4 (.slice (some ⟨W3.heap.size, 0, none⟩) 2 2) [Q, R]) := hwr
    clear hwr
    go_wp2_with fail
    rw [← HW4.out]
    refine (AP1.out _ _ _ (HT1.out.grown (grown_trans hg13 hgA4)) HWR.out).mono ?_
    rintro e w5 ⟨x5, rfl, h5, hg5⟩
    obtain ⟨na5, nc5, rfl⟩ := h5.shape
    have HX5 : Hid (TensIs w5 (.slice na5 X.length nc5) X) := h5
    have hg35 := grown_trans hgA4 hg5
    have hg25 := grown_trans hg23 hg35
    have hg05 := grown_trans hg03 hg35
    have hg15 := grown_trans hg13 hg35
    clear h5 a0 a1 a2 a3 b0 b1 b2 b3
    go_upto_region 5 with fail
    obtain ⟨⟨a0, a1, a2, a3⟩, _⟩ := quad_room hg25 B2.out
    obtain ⟨⟨b0, b1, b2, b3⟩, _⟩ := quad_room hg35 B3.out
    have hwr := writes_two w5 _ _ _ _ _ _ R Q (HR1.out.grown hg35) (HR2.out.grown hg35) (HR3.out.grown hg35) (HQ1.out.grown hg25) (HQ2.out.grown hg25) (HQ3.out.grown hg25) 29
    obtain ⟨W6, HW6, hgA6, _⟩ := alloc_named w5 (.cells #[.slice ra1 R.name.length ra2, .slice ra3 R.key.length ra4, .bool R.gone, .slice ra5 R.value.length ra6, .slice qa1 Q.name.length qa2, .slice qa3 Q.key.length qa4, .bool Q.gone, .slice qa5 Q.value.length qa6] 29)
    rw [← HW6.out] at hwr
    have HWR2 : Hid (WritesIs W6 (.slice (some ⟨w5.heap.size, 0, none⟩) 2 2) [R, Q]) := hwr
    clear hwr
    go_wp2_with fail
    rw [← HW6.out]
    refine (AP2.out _ _ _ (HT1.out.grown (grown_trans hg15 hgA6)) HWR2.out).mono ?_
    rintro e w7 ⟨y7, rfl, h7, hg7⟩
    obtain ⟨na7, nc7, rfl⟩ := h7.shape
    have HY7 : Hid (TensIs w7 (.slice na7 Y.length nc7) Y) := h7
    have hg57 := grown_trans hgA6 hg7
    have hg07 := grown_trans hg05 hg57
    have hg17 := grown_trans hg15 hg57
    clear h7 a0 a1 a2 a3 b0 b1 b2 b3
    go_upto_region 6 with fail
    have mk := make_wr w7
    have hwr := writes_none w7 29
    obtain ⟨W8, HW8, hgA8, _⟩ := alloc_named w7 (.cells noWrites 29)
    rw [← HW8.out] at hwr mk
    have HWR3 : Hid (WritesIs W8 (.slice (some ⟨w7.heap.size, 0, none⟩) 11 11) (List.replicate 11 noPlc)) := hwr
    clear hwr
    go_wp2_with fail
    refine (AP3.out _ _ _ (HT1.out.grown (grown_trans hg17 hgA8)) HWR3.out).mono ?_
    rintro e w9 ⟨z9, rfl, h9, hg9⟩
    obtain ⟨na9, nc9, rfl⟩ := h9.shape
    have hg79 := grown_trans hgA8 hg9
    have hg59 := grown_trans hg57 hg79
    have hg39 := grown_trans hg35 hg59
    have hg29 := grown_trans hg23 hg39
    have hg09 := grown_trans hg07 hg79
    obtain ⟨⟨a0, a1, a2, a3⟩, _⟩ := quad_room hg29 B2.out
    obtain ⟨⟨b0, b1, b2, b3⟩, _⟩ := quad_room hg39 B3.out
    have SMN : Hid (Calls Try.prog 11 #[.slice qa1 Q.name.length qa2, .slice ra1 R.name.length ra2] w9 fun e w' => e = .returned (.bool (decide (Q.name = R.name))) ∧ w' = w9) := same_any w9 _ _ _ _ (HQ1.out.grown hg29) (HR1.out.grown hg39)
    have SMK : Hid (Calls Try.prog 11 #[.slice qa3 Q.key.length qa4, .slice ra3 R.key.length ra4] w9 fun e w' => e = .returned (.bool (decide (Q.key = R.key))) ∧ w' = w9) := same_any w9 _ _ _ _ (HQ2.out.grown hg29) (HR2.out.grown hg39)
    have SF : Hid (X = Y → FitsT X → Calls Try.prog 13 #[.slice na5 X.length nc5, .slice na7 Y.length nc7] w9 fun e w' => e = .returned (.bool true) ∧ w9.grownBy w' none) := fun h hf => by
      have h1 := HX5.out.grown hg59
      have h2 := HY7.out.grown hg79
      rw [← h] at h2
      have h3 := sameForest_same w9 _ _ X h1 h2 hf
      rw [← h]
      exact h3
    clear hg9 hgA8 mk hg7 hg57 hgA6 hg17 hg07 hg15 hg05 hg25 hg35 hg5 hgA4 hg03 hg13 hg23 hgA3 hg3 hgL2 hg02 hg12 hgA2 hg2 hg01 hg1 hgW h9
    go_wp2_with fail
    refine SMN.out.mono ?_
    rintro e w' ⟨rfl, rfl⟩
    rcases HND.out with hn | hn
    · rw [decide_eq_true hn]
      go_wp2_with fail
      refine SMK.out.mono ?_
      rintro e w' ⟨rfl, rfl⟩
      rcases HKD.out with hk | hk
      · rw [decide_eq_true hk]
        clear hn hk
        go_wp2
        go_ret
        exact ⟨rfl, hg09⟩
      · rw [decide_eq_false hk]
        have HNE : Hid (¬ (Q.name = R.name ∧ Q.key = R.key)) := fun h => hk h.2
        clear hn hk
        go_wp2
        go_ret
        exact ⟨rfl, hg09⟩
    · rw [decide_eq_false hn]
      have HNE : Hid (¬ (Q.name = R.name ∧ Q.key = R.key)) := fun h => hn h.1
      clear hn
      go_wp2
      go_ret
      exact ⟨rfl, hg09⟩
end Go.Proofs.Ytkkcjnhfbblgiab
