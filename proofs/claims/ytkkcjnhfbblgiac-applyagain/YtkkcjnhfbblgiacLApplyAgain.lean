/-
  The walk of canopykeep.ApplyAgain, over what the code must keep.
-/
import Derived.Test.YtkkcjnhfbblgiacLFK
import Derived.Test.YtkkcjnhfbblgiacKSame
import Derived.Test.YtkkcjnhfbblgiacKSameF
import Derived.Test.YtkkcjnhfbblgiacWrMore
import Derived.Deep.RegionWith
namespace Go.Proofs.Ytkkcjnhfbblgiac
open Go.RowKit
theorem tens_one (w : World) (t : TypeId) : TensIs (w.alloc (.cells #[.slice none 0 0, .slice none 0 0] t)) (.slice (some ⟨w.heap.size, 0, none⟩) 1 1) [([], [])] := by
  refine ⟨_, 1, rfl, by simp, .inr ⟨w.heap.size, 0, rfl, fun i hi => ?_⟩⟩
  obtain rfl : i = 0 := by simpa using hi
  exact ⟨.slice none 0 0, .slice none 0 0, by simp, by simp, sliceIs_nil _, pairsIs_nil _⟩
theorem applied_no {f : FL} (h : Forest f) : appliedE f [] = 0 ∧ appliedF f [] = f := by
  have h1 : appliedE f [] = 0 := by rw [applied_ok h [] (by simp)]; rfl
  exact ⟨h1, by rw [appliedF, if_pos h1]; rfl⟩
set_option maxRecDepth 100000 in
set_option maxHeartbeats 1000000 in
theorem applyAgain_walk (hA : FApplyOK) (hC : FCheckOK) (w : World) (v p o : Value) (l : List Plc) (P O : Plc) (hv : PlacesIs w v l) (hp : PlaceIs w p P) (ho : PlaceIs w o O) (hl : FitsQ l) (hP : PlcFits P) (hO : PlcFits O) :
    Calls Try.prog 5 #[v, p, o] w fun e w' => e = .returned (.bool true) ∧ w.grownBy w' none := by
  obtain ⟨hF, hS⟩ := mkP_ok l 20
  have HFO : Hid (∀ w', w.grownBy w' none → Calls Try.prog 6 #[v, .int .i64 20] w' fun e w'' => ∃ v', e = .returned v' ∧ TensIs w'' v' (mkP l 20) ∧ w'.grownBy w'' none) := fun w' hg => kforest_any hA w' v l 20 (hv.grown hg) hl (by omega)
  have HWP : Hid (∀ w', w.grownBy w' none → Calls Try.prog 7 #[p] w' fun e w'' => ∃ na nc ka kc va vc, e = .returned (.agg #[.slice na (writeF P).name.length nc, .slice ka (writeF P).key.length kc, .bool (writeF P).gone, .slice va (writeF P).value.length vc]) ∧ SliceIs w'' (.slice na (writeF P).name.length nc) (writeF P).name ∧ SliceIs w'' (.slice ka (writeF P).key.length kc) (writeF P).key ∧ SliceIs w'' (.slice va (writeF P).value.length vc) (writeF P).value ∧ w'.grownBy w'' none) := fun w' hg => write_of w' p P (hp.grown hg) hP
  have HWO : Hid (∀ w', w.grownBy w' none → Calls Try.prog 7 #[o] w' fun e w'' => ∃ na nc ka kc va vc, e = .returned (.agg #[.slice na (writeF O).name.length nc, .slice ka (writeF O).key.length kc, .bool (writeF O).gone, .slice va (writeF O).value.length vc]) ∧ PartIs 0 w'' (.slice na (writeF O).name.length nc) (writeF O).name ∧ PartIs 0 w'' (.slice ka (writeF O).key.length kc) (writeF O).key ∧ PartIs 0 w'' (.slice va (writeF O).value.length vc) (writeF O).value ∧ w'.grownBy w'' none) := fun w' hg => write_of0 w' o O (ho.grown hg) hO
  have hq := writeF_ok P
  have hr := writeF_ok O
  generalize writeF P = Q at *
  generalize writeF O = R at *
  generalize mkP l 20 = f at *
  -- the writes: one, or two to two tenants
  obtain ⟨ws, hws⟩ : ∃ ws, ws = if R.name = Q.name then [Q] else [Q, R] := ⟨_, rfl⟩
  have hok : ∀ x ∈ ws, writeE x = 0 := by
    intro x hx
    rw [hws] at hx
    split at hx
    · simp at hx; rw [hx]; exact hq
    · simp at hx; rcases hx with rfl | rfl
      · exact hq
      · exact hr
  have hwl : ws.length ≤ 2 := by rw [hws]; split <;> simp
  have hag : applyE f ws = 0 → applyE (applyL f ws) ws = 0 ∧ applyL (applyL f ws) ws = applyL f ws := by
    intro h
    rw [hws] at h ⊢
    by_cases hn : R.name = Q.name
    · rw [if_pos hn] at h ⊢; exact apply_again hF hq hS (by omega) h
    · rw [if_neg hn] at h ⊢; exact apply_again2 hF hq hr hS (by omega) hn h
  have hfull := apply_full ws f 20 hF hok hS (by omega)
  have AP1 : Hid (∀ w' v' u', TensIs w' v' f → WritesIs w' u' ws → Calls Try.prog 13 #[v', u'] w' fun e w'' => ∃ x, e = .returned (.tuple #[x, .int .i64 (applyE f ws)]) ∧ TensIs w'' x (if applyE f ws = 0 then applyL f ws else []) ∧ w'.grownBy w'' none) := fun w' v' u' h1 h2 => FApplyOK.of hA w' v' u' f _ h1 h2 hF hok (by omega)
  have CK : Hid (∀ w' v', TensIs w' v' [([], [])] → Calls Try.prog 14 #[v'] w' fun e w'' => e = .returned (.int .i64 1) ∧ w'.grownBy w'' none) := fun w' v' h => by
    have := hC w' v' [([], [])] h ⟨by simp, fun i hi => by
      obtain rfl : i = 0 := by simpa using hi
      exact ⟨by simp, by show Fits ([] : PL); exact tree_nil.fits⟩⟩
    rw [show forestE [([], [])] = 1 by decide] at this
    exact this
  have HWS : Hid (∀ w' u', (R.name = Q.name → WritesIs w' u' [Q] → WritesIs w' u' ws) ∧ (¬ R.name = Q.name → WritesIs w' u' [Q, R] → WritesIs w' u' ws)) := fun w' u' => ⟨fun h1 h2 => by rw [hws, if_pos h1]; exact h2, fun h1 h2 => by rw [hws, if_neg h1]; exact h2⟩
  obtain ⟨pa1, pa2, pa3, pa4, pa5, pa6, rfl⟩ := hp.cells
  obtain ⟨oa1, oa2, oa3, oa4, oa5, oa6, rfl⟩ := ho.cells
  obtain ⟨la, lc, rfl⟩ := hv.shape
  obtain ⟨W0, hW0⟩ : ∃ W0 : World, W0 = (w.alloc (.cells #[.slice pa1 P.name.length pa2, .slice pa3 P.key.length pa4, .slice pa5 P.value.length pa6, .bool P.gone] 25)).alloc (.cells #[.slice oa1 O.name.length oa2, .slice oa3 O.key.length oa4, .slice oa5 O.value.length oa6, .bool O.gone] 25) := ⟨_, rfl⟩
  have HW0 : Hid (W0 = (w.alloc (.cells #[.slice pa1 P.name.length pa2, .slice pa3 P.key.length pa4, .slice pa5 P.value.length pa6, .bool P.gone] 25)).alloc (.cells #[.slice oa1 O.name.length oa2, .slice oa3 O.key.length oa4, .slice oa5 O.value.length oa6, .bool O.gone] 25)) := hW0
  have hgW : w.grownBy W0 none := by rw [hW0]; exact grown_alloc (World.grownBy_alloc _ _ _) _
  have BP : Hid (W0.heap[w.heap.size]? = some (.cells #[.slice pa1 P.name.length pa2, .slice pa3 P.key.length pa4, .slice pa5 P.value.length pa6, .bool P.gone] 25)) := by
    show _ = _
    rw [hW0, (World.grownBy_alloc _ _ none).block _ (by simp) (by simp)]; exact heap_alloc_new w _
  have BO : Hid (W0.heap[w.heap.size + 1]? = some (.cells #[.slice oa1 O.name.length oa2, .slice oa3 O.key.length oa4, .slice oa5 O.value.length oa6, .bool O.gone] 25)) := by
    have := heap_alloc_new (w.alloc (.cells #[.slice pa1 P.name.length pa2, .slice pa3 P.key.length pa4, .slice pa5 P.value.length pa6, .bool P.gone] 25)) (.cells #[.slice oa1 O.name.length oa2, .slice oa3 O.key.length oa4, .slice oa5 O.value.length oa6, .bool O.gone] 25)
    rw [World.size_alloc] at this
    show _ = _
    rw [hW0]; exact this
  clear hp ho hv hW0 hP hO hl
  generalize P.name.length = pn at *
  generalize P.key.length = pk at *
  generalize P.value.length = pv at *
  generalize P.gone = pg at *
  generalize O.name.length = on at *
  generalize O.key.length = ok at *
  generalize O.value.length = ov at *
  generalize O.gone = og at *
  have hroom := hF.room
  have HND : Hid (R.name = Q.name ∨ ¬ R.name = Q.name) := Classical.em _
  have MID : ∃ (E : Int) (X : FL), E = applyE f ws ∧ X = (if applyE f ws = 0 then applyL f ws else []) := ⟨_, _, rfl, rfl⟩
  obtain ⟨E, X, hE, hX⟩ := MID
  rw [← hX, ← hE] at AP1
  have hcase : (E = 0 ∧ Forest X ∧ applyE X ws = 0 ∧ applyL X ws = X) ∨ E = 11 := by
    rcases hfull with h | h
    · left
      rw [if_pos h] at hX
      obtain ⟨g1, g2⟩ := hag h
      rw [← hX] at g1 g2
      exact ⟨by rw [hE, h], by rw [hX]; exact apply_forest _ _ hF h, g1, g2⟩
    · right; rw [hE, h]
  have AP2 : Hid (Forest X → applyE X ws = 0 → applyL X ws = X → ∀ w' v' u', TensIs w' v' X → WritesIs w' u' ws → Calls Try.prog 13 #[v', u'] w' fun e w'' => ∃ x, e = .returned (.tuple #[x, .int .i64 0]) ∧ TensIs w'' x X ∧ w'.grownBy w'' none) := fun hFX g1 g2 w' v' u' h1 h2 => by
    have := FApplyOK.of hA w' v' u' X ws h1 h2 hFX hok (by omega)
    rw [g1, if_pos rfl, g2] at this
    exact this
  have AP3 : Hid (Forest X → ∀ w' v', TensIs w' v' X → Calls Try.prog 13 #[v', .slice none 0 0] w' fun e w'' => ∃ x, e = .returned (.tuple #[x, .int .i64 0]) ∧ TensIs w'' x X ∧ w'.grownBy w'' none) := fun hFX w' v' h1 => by
    have := hA w' v' (.slice none 0 0) X [] h1 (writesIs_nil _) hFX.fits ⟨by simp, by simp⟩
    rw [(applied_no hFX).1, (applied_no hFX).2] at this
    exact this
  clear hE hX hag hfull hok hwl hq hr hF hS hA hC hws
  rcases hcase with ⟨rfl, hFX, g1, g2⟩ | rfl
  · have HFX : Hid (Forest X) := hFX
    have G1 : Hid (applyE X ws = 0) := g1
    have G2 : Hid (applyL X ws = X) := g2
    clear hFX g1 g2
    go_enter Try.func5, Try.ntmps5
    go_wp2_with fail
    rw [← HW0.out]
    go_wp2_with fail
    refine (HFO.out _ hgW).mono ?_
    rintro e w1 ⟨v1, rfl, h1, hg1⟩
    obtain ⟨fa, fc, rfl⟩ := h1.shape
    have HT1 : Hid (TensIs w1 (.slice fa f.length fc) f) := h1
    have hg01 := grown_trans hgW hg1
    obtain ⟨⟨p0, p1, p2, p3⟩, _⟩ := quad_room hg1 BP.out
    clear h1
    go_wp2_with fail
    refine (HWP.out _ hg01).mono ?_
    rintro e w2 ⟨qa1, qa2, qa3, qa4, qa5, qa6, rfl, hq1, hq2, hq3, hg2⟩
    obtain ⟨W2, HW2, hgA2, B2⟩ := alloc_named w2 (.cells #[.slice qa1 Q.name.length qa2, .slice qa3 Q.key.length qa4, .bool Q.gone, .slice qa5 Q.value.length qa6] 29)
    have HQ1 : Hid (SliceIs W2 (.slice qa1 Q.name.length qa2) Q.name) := hq1.grown hgA2
    have HQ2 : Hid (SliceIs W2 (.slice qa3 Q.key.length qa4) Q.key) := hq2.grown hgA2
    have HQ3 : Hid (SliceIs W2 (.slice qa5 Q.value.length qa6) Q.value) := hq3.grown hgA2
    have hg12 := grown_trans hg2 hgA2
    have hg02 := grown_trans hg01 hg12
    have HQ1w : Hid (SliceIs w2 (.slice qa1 Q.name.length qa2) Q.name) := hq1
    have HQ2w : Hid (SliceIs w2 (.slice qa3 Q.key.length qa4) Q.key) := hq2
    have HQ3w : Hid (SliceIs w2 (.slice qa5 Q.value.length qa6) Q.value) := hq3
    clear hq1 hq2 hq3 p0 p1 p2 p3
    go_upto_region 3 with fail
    rw [← HW2.out]
    have hgL2 := grown_trans hg1 hg12
    obtain ⟨⟨o0, o1, o2, o3⟩, _⟩ := quad_room hgL2 BO.out
    go_wp2_with fail
    refine (HWO.out _ hg02).mono ?_
    rintro e w3 ⟨ra1, ra2, ra3, ra4, ra5, ra6, rfl, hr1, hr2, hr3, hg3⟩
    obtain ⟨W3, HW3, hgA3, B3⟩ := alloc_named w3 (.cells #[.slice ra1 R.name.length ra2, .slice ra3 R.key.length ra4, .bool R.gone, .slice ra5 R.value.length ra6] 29)
    have HR1 : Hid (PartIs 0 W3 (.slice ra1 R.name.length ra2) R.name) := hr1.keptT hgA3 (.inl rfl)
    have HR2 : Hid (PartIs 0 W3 (.slice ra3 R.key.length ra4) R.key) := hr2.keptT hgA3 (.inl rfl)
    have HR3 : Hid (PartIs 0 W3 (.slice ra5 R.value.length ra6) R.value) := hr3.keptT hgA3 (.inl rfl)
    have hg23 := grown_trans hg3 hgA3
    have hg13 := grown_trans hg12 hg23
    have hg03 := grown_trans hg02 hg23
    clear hr1 hr2 hr3 o0 o1 o2 o3
    go_upto_region 4 with fail
    rw [← HW3.out]
    obtain ⟨⟨a0, a1, a2, a3⟩, _⟩ := quad_room hg23 B2.out
    obtain ⟨⟨b0, b1, b2, b3⟩, _⟩ := quad_room (grown_refl W3 none) B3.out
    have SMN : Hid (∀ k, Calls Try.prog 11 #[.slice ra1 R.name.length ra2, .slice qa1 Q.name.length qa2] (W3.drewN k) fun e w' => e = .returned (.bool (decide (R.name = Q.name))) ∧ w' = W3.drewN k) := fun k => same_any _ _ _ _ _ (HR1.out.1.drewN k) ((HQ1.out.grown hg23).drewN k)
    go_quiet (first | (go_at_call 11; exact Calls.quiet_of_same (SMN.out _)))
    have hgd : W3.grownBy (W3.drewN nq) none := grown_drewN (grown_refl _ _) nq
    generalize W3.drewN nq = Wd at *
    rcases HND.out with hn | hn
    · rw [decide_eq_true hn]
      have hgW5 := hgd
      have HWR : Hid (WritesIs Wd (.slice (some ⟨w2.heap.size, 0, none⟩) 1 1) ws) := ((HWS.out _ _).1 hn (by
        have hwr := writes_one w2 _ _ _ Q HQ1w.out HQ2w.out HQ3w.out 29
        rw [← HW2.out] at hwr
        exact hwr.grown (grown_trans hg23 hgW5)))
      have hT1W5 := grown_trans hg13 hgW5
      have h0W5 := grown_trans hg03 hgW5
      clear hn
      go_wp2_with fail
      refine (AP1.out _ _ _ (HT1.out.grown hT1W5) HWR.out).mono ?_
      rintro e w6 ⟨x6, rfl, h6, hg6⟩
      have HX6 : Hid (TensIs w6 x6 X) := h6
      obtain ⟨a6, c6, rfl⟩ := h6.shape
      have hg06 := grown_trans h0W5 hg6
      clear h6
      go_wp2_with fail
      refine (AP2.out HFX.out G1.out G2.out _ _ _ HX6.out (HWR.out.grown hg6)).mono ?_
      rintro e w7 ⟨x7, rfl, h7, hg7⟩
      have HX7 : Hid (TensIs w7 x7 X) := h7
      obtain ⟨a7, c7, rfl⟩ := h7.shape
      clear h7
      go_wp2_with fail
      refine (AP3.out HFX.out _ _ (HX6.out.grown hg7)).mono ?_
      rintro e w8 ⟨x8, rfl, h8, hg8⟩
      have HX8 : Hid (TensIs w8 x8 X) := h8
      obtain ⟨a8, c8, rfl⟩ := h8.shape
      clear h8
      have hg68 := grown_trans hg7 hg8
      have SF1 : Hid (Calls Try.prog 15 #[.slice a6 X.length c6, .slice a7 X.length c7] w8 fun e w' => e = .returned (.bool true) ∧ w8.grownBy w' none) := sameForest_same w8 _ _ X (HX6.out.grown hg68) (HX7.out.grown hg8) HFX.out.fits
      have SF2 : Hid (∀ w', w8.grownBy w' none → Calls Try.prog 15 #[.slice a6 X.length c6, .slice a8 X.length c8] w' fun e w'' => e = .returned (.bool true) ∧ w'.grownBy w'' none) := fun w' hg => sameForest_same w' _ _ X (HX6.out.grown (grown_trans hg68 hg)) (HX8.out.grown hg) HFX.out.fits
      go_wp2_with fail
      refine SF1.out.mono ?_
      rintro e w9 ⟨rfl, hg9⟩
      go_wp2_with fail
      refine (SF2.out _ hg9).mono ?_
      rintro e w10 ⟨rfl, hg10⟩
      have HTO : Hid (TensIs (w10.alloc (.cells #[.slice none 0 0, .slice none 0 0] 45)) (.slice (some ⟨w10.heap.size, 0, none⟩) 1 1) [([], [])]) := tens_one w10 _
      go_wp2_with fail
      refine (CK.out _ _ HTO.out).mono ?_
      rintro e w11 ⟨rfl, hg11⟩
      go_wp2
      go_ret
      exact ⟨rfl, grown_trans (grown_trans hg06 hg68) (grown_trans hg9 (grown_trans hg10 (grown_trans (World.grownBy_alloc _ _ _) hg11)))⟩
    · rw [decide_eq_false hn]
      have HNE : Hid (¬ R.name = Q.name) := hn
      clear hn
      have hown : OwnW w2.heap.size W2 (.slice (some ⟨w2.heap.size, 0, none⟩) 1 1) [Q] := ⟨[(Q, .slice qa1 Q.name.length qa2, .slice qa3 Q.key.length qa4, .slice qa5 Q.value.length qa6)], rfl, ⟨rfl, .inr ⟨w2.heap.size, 1, _, rfl, Nat.le_refl _, B2.out, by simp, by decide, rfl, rfl⟩⟩, fun x hx => by
        simp at hx
        rw [hx]
        exact ⟨HQ1w.out.part hgA2 _ (Nat.le_refl _), HQ2w.out.part hgA2 _ (Nat.le_refl _), HQ3w.out.part hgA2 _ (Nat.le_refl _)⟩⟩
      have HOW : Hid (OwnW w2.heap.size (Wd.alloc (.cells #[.slice ra1 R.name.length ra2, .slice ra3 R.key.length ra4, .bool R.gone, .slice ra5 R.value.length ra6] 29)) (.slice (some ⟨w2.heap.size, 0, none⟩) 1 1) [Q]) := (hown.grownNone (grown_trans hg23 hgd)).alloc _
      have hga := World.grownBy_alloc Wd (.cells #[.slice ra1 R.name.length ra2, .slice ra3 R.key.length ra4, .bool R.gone, .slice ra5 R.value.length ra6] 29) none
      have hgda := grown_trans hgd hga
      have HP1 : Hid (PartIs w2.heap.size (Wd.alloc (.cells #[.slice ra1 R.name.length ra2, .slice ra3 R.key.length ra4, .bool R.gone, .slice ra5 R.value.length ra6] 29)) (.slice ra1 R.name.length ra2) R.name) := (HR1.out.keptT hgda (.inl rfl)).mono (Nat.zero_le _)
      have HP2 : Hid (PartIs w2.heap.size (Wd.alloc (.cells #[.slice ra1 R.name.length ra2, .slice ra3 R.key.length ra4, .bool R.gone, .slice ra5 R.value.length ra6] 29)) (.slice ra3 R.key.length ra4) R.key) := (HR2.out.keptT hgda (.inl rfl)).mono (Nat.zero_le _)
      have HP3 : Hid (PartIs w2.heap.size (Wd.alloc (.cells #[.slice ra1 R.name.length ra2, .slice ra3 R.key.length ra4, .bool R.gone, .slice ra5 R.value.length ra6] 29)) (.slice ra5 R.value.length ra6) R.value) := (HR3.out.keptT hgda (.inl rfl)).mono (Nat.zero_le _)
      have hs2 : w2.heap.size ≤ (Wd.alloc (.cells #[.slice ra1 R.name.length ra2, .slice ra3 R.key.length ra4, .bool R.gone, .slice ra5 R.value.length ra6] 29)).heap.size := (grown_trans hgA2 (grown_trans hg23 hgda)).size
      have HS2 : Hid (w2.heap.size ≤ (Wd.alloc (.cells #[.slice ra1 R.name.length ra2, .slice ra3 R.key.length ra4, .bool R.gone, .slice ra5 R.value.length ra6] 29)).heap.size) := hs2
      have hs1 := hg2.size
      have hs0 := (grown_trans hg01 hg2).size
      have f0 := hgd.cell b0 (by simp)
      have f1 := hgd.cell b1 (by simp)
      have f2 := hgd.cell b2 (by simp)
      have f3 := hgd.cell b3 (by simp)
      clear hown hs2
      go_wp2_with (at_builtin; refine wpList_append_wr rfl _ _ rfl w2.heap.size (.slice (some ⟨w2.heap.size, 0, none⟩) 1 1) [Q] rfl HOW.out (.slice ra1 R.name.length ra2) (.slice ra3 R.key.length ra4) (.slice ra5 R.value.length ra6) R HP1.out HP2.out HP3.out Wd.heap.size (heap_alloc_new Wd _) rfl (by simp) HS2.out ?_; intro v5 w5 ho5 hg5; have HO5 : Hid (WritesIs w5 v5 ([Q] ++ [R])) := ho5.list; have hT1W5 : w1.grownBy w5 none := grown_new (grown_trans hg13 hgda) hs1 hg5; have h0W5 : w.grownBy w5 none := grown_new (grown_trans hg03 hgda) hs0 hg5; obtain ⟨a5, c5, rfl⟩ := ho5.shape; clear ho5 hg5)
      have HWR : Hid (WritesIs w5 (.slice a5 2 c5) ws) := (HWS.out _ _).2 HNE.out HO5.out
      refine (AP1.out _ _ _ (HT1.out.grown hT1W5) HWR.out).mono ?_
      rintro e w6 ⟨x6, rfl, h6, hg6⟩
      have HX6 : Hid (TensIs w6 x6 X) := h6
      obtain ⟨a6, c6, rfl⟩ := h6.shape
      have hg06 := grown_trans h0W5 hg6
      clear h6
      go_wp2_with fail
      refine (AP2.out HFX.out G1.out G2.out _ _ _ HX6.out (HWR.out.grown hg6)).mono ?_
      rintro e w7 ⟨x7, rfl, h7, hg7⟩
      have HX7 : Hid (TensIs w7 x7 X) := h7
      obtain ⟨a7, c7, rfl⟩ := h7.shape
      clear h7
      go_wp2_with fail
      refine (AP3.out HFX.out _ _ (HX6.out.grown hg7)).mono ?_
      rintro e w8 ⟨x8, rfl, h8, hg8⟩
      have HX8 : Hid (TensIs w8 x8 X) := h8
      obtain ⟨a8, c8, rfl⟩ := h8.shape
      clear h8
      have hg68 := grown_trans hg7 hg8
      have SF1 : Hid (Calls Try.prog 15 #[.slice a6 X.length c6, .slice a7 X.length c7] w8 fun e w' => e = .returned (.bool true) ∧ w8.grownBy w' none) := sameForest_same w8 _ _ X (HX6.out.grown hg68) (HX7.out.grown hg8) HFX.out.fits
      have SF2 : Hid (∀ w', w8.grownBy w' none → Calls Try.prog 15 #[.slice a6 X.length c6, .slice a8 X.length c8] w' fun e w'' => e = .returned (.bool true) ∧ w'.grownBy w'' none) := fun w' hg => sameForest_same w' _ _ X (HX6.out.grown (grown_trans hg68 hg)) (HX8.out.grown hg) HFX.out.fits
      go_wp2_with fail
      refine SF1.out.mono ?_
      rintro e w9 ⟨rfl, hg9⟩
      go_wp2_with fail
      refine (SF2.out _ hg9).mono ?_
      rintro e w10 ⟨rfl, hg10⟩
      have HTO : Hid (TensIs (w10.alloc (.cells #[.slice none 0 0, .slice none 0 0] 45)) (.slice (some ⟨w10.heap.size, 0, none⟩) 1 1) [([], [])]) := tens_one w10 _
      go_wp2_with fail
      refine (CK.out _ _ HTO.out).mono ?_
      rintro e w11 ⟨rfl, hg11⟩
      go_wp2
      go_ret
      exact ⟨rfl, grown_trans (grown_trans hg06 hg68) (grown_trans hg9 (grown_trans hg10 (grown_trans (World.grownBy_alloc _ _ _) hg11)))⟩
  · skip
    go_enter Try.func5, Try.ntmps5
    go_wp2_with fail
    rw [← HW0.out]
    go_wp2_with fail
    refine (HFO.out _ hgW).mono ?_
    rintro e w1 ⟨v1, rfl, h1, hg1⟩
    obtain ⟨fa, fc, rfl⟩ := h1.shape
    have HT1 : Hid (TensIs w1 (.slice fa f.length fc) f) := h1
    have hg01 := grown_trans hgW hg1
    obtain ⟨⟨p0, p1, p2, p3⟩, _⟩ := quad_room hg1 BP.out
    clear h1
    go_wp2_with fail
    refine (HWP.out _ hg01).mono ?_
    rintro e w2 ⟨qa1, qa2, qa3, qa4, qa5, qa6, rfl, hq1, hq2, hq3, hg2⟩
    obtain ⟨W2, HW2, hgA2, B2⟩ := alloc_named w2 (.cells #[.slice qa1 Q.name.length qa2, .slice qa3 Q.key.length qa4, .bool Q.gone, .slice qa5 Q.value.length qa6] 29)
    have HQ1 : Hid (SliceIs W2 (.slice qa1 Q.name.length qa2) Q.name) := hq1.grown hgA2
    have HQ2 : Hid (SliceIs W2 (.slice qa3 Q.key.length qa4) Q.key) := hq2.grown hgA2
    have HQ3 : Hid (SliceIs W2 (.slice qa5 Q.value.length qa6) Q.value) := hq3.grown hgA2
    have hg12 := grown_trans hg2 hgA2
    have hg02 := grown_trans hg01 hg12
    have HQ1w : Hid (SliceIs w2 (.slice qa1 Q.name.length qa2) Q.name) := hq1
    have HQ2w : Hid (SliceIs w2 (.slice qa3 Q.key.length qa4) Q.key) := hq2
    have HQ3w : Hid (SliceIs w2 (.slice qa5 Q.value.length qa6) Q.value) := hq3
    clear hq1 hq2 hq3 p0 p1 p2 p3
    go_upto_region 3 with fail
    rw [← HW2.out]
    have hgL2 := grown_trans hg1 hg12
    obtain ⟨⟨o0, o1, o2, o3⟩, _⟩ := quad_room hgL2 BO.out
    go_wp2_with fail
    refine (HWO.out _ hg02).mono ?_
    rintro e w3 ⟨ra1, ra2, ra3, ra4, ra5, ra6, rfl, hr1, hr2, hr3, hg3⟩
    obtain ⟨W3, HW3, hgA3, B3⟩ := alloc_named w3 (.cells #[.slice ra1 R.name.length ra2, .slice ra3 R.key.length ra4, .bool R.gone, .slice ra5 R.value.length ra6] 29)
    have HR1 : Hid (PartIs 0 W3 (.slice ra1 R.name.length ra2) R.name) := hr1.keptT hgA3 (.inl rfl)
    have HR2 : Hid (PartIs 0 W3 (.slice ra3 R.key.length ra4) R.key) := hr2.keptT hgA3 (.inl rfl)
    have HR3 : Hid (PartIs 0 W3 (.slice ra5 R.value.length ra6) R.value) := hr3.keptT hgA3 (.inl rfl)
    have hg23 := grown_trans hg3 hgA3
    have hg13 := grown_trans hg12 hg23
    have hg03 := grown_trans hg02 hg23
    clear hr1 hr2 hr3 o0 o1 o2 o3
    go_upto_region 4 with fail
    rw [← HW3.out]
    obtain ⟨⟨a0, a1, a2, a3⟩, _⟩ := quad_room hg23 B2.out
    obtain ⟨⟨b0, b1, b2, b3⟩, _⟩ := quad_room (grown_refl W3 none) B3.out
    have SMN : Hid (∀ k, Calls Try.prog 11 #[.slice ra1 R.name.length ra2, .slice qa1 Q.name.length qa2] (W3.drewN k) fun e w' => e = .returned (.bool (decide (R.name = Q.name))) ∧ w' = W3.drewN k) := fun k => same_any _ _ _ _ _ (HR1.out.1.drewN k) ((HQ1.out.grown hg23).drewN k)
    go_quiet (first | (go_at_call 11; exact Calls.quiet_of_same (SMN.out _)))
    have hgd : W3.grownBy (W3.drewN nq) none := grown_drewN (grown_refl _ _) nq
    generalize W3.drewN nq = Wd at *
    rcases HND.out with hn | hn
    · rw [decide_eq_true hn]
      have hgW5 := hgd
      have HWR : Hid (WritesIs Wd (.slice (some ⟨w2.heap.size, 0, none⟩) 1 1) ws) := ((HWS.out _ _).1 hn (by
        have hwr := writes_one w2 _ _ _ Q HQ1w.out HQ2w.out HQ3w.out 29
        rw [← HW2.out] at hwr
        exact hwr.grown (grown_trans hg23 hgW5)))
      have hT1W5 := grown_trans hg13 hgW5
      have h0W5 := grown_trans hg03 hgW5
      clear hn
      go_wp2_with fail
      refine (AP1.out _ _ _ (HT1.out.grown hT1W5) HWR.out).mono ?_
      rintro e w6 ⟨x6, rfl, h6, hg6⟩
      obtain ⟨a6, c6, rfl⟩ := h6.shape
      have hgF := grown_trans h0W5 hg6
      clear h6
      go_wp2
      go_ret
      exact ⟨rfl, hgF⟩
    · rw [decide_eq_false hn]
      have HNE : Hid (¬ R.name = Q.name) := hn
      clear hn
      have hown : OwnW w2.heap.size W2 (.slice (some ⟨w2.heap.size, 0, none⟩) 1 1) [Q] := ⟨[(Q, .slice qa1 Q.name.length qa2, .slice qa3 Q.key.length qa4, .slice qa5 Q.value.length qa6)], rfl, ⟨rfl, .inr ⟨w2.heap.size, 1, _, rfl, Nat.le_refl _, B2.out, by simp, by decide, rfl, rfl⟩⟩, fun x hx => by
        simp at hx
        rw [hx]
        exact ⟨HQ1w.out.part hgA2 _ (Nat.le_refl _), HQ2w.out.part hgA2 _ (Nat.le_refl _), HQ3w.out.part hgA2 _ (Nat.le_refl _)⟩⟩
      have HOW : Hid (OwnW w2.heap.size (Wd.alloc (.cells #[.slice ra1 R.name.length ra2, .slice ra3 R.key.length ra4, .bool R.gone, .slice ra5 R.value.length ra6] 29)) (.slice (some ⟨w2.heap.size, 0, none⟩) 1 1) [Q]) := (hown.grownNone (grown_trans hg23 hgd)).alloc _
      have hga := World.grownBy_alloc Wd (.cells #[.slice ra1 R.name.length ra2, .slice ra3 R.key.length ra4, .bool R.gone, .slice ra5 R.value.length ra6] 29) none
      have hgda := grown_trans hgd hga
      have HP1 : Hid (PartIs w2.heap.size (Wd.alloc (.cells #[.slice ra1 R.name.length ra2, .slice ra3 R.key.length ra4, .bool R.gone, .slice ra5 R.value.length ra6] 29)) (.slice ra1 R.name.length ra2) R.name) := (HR1.out.keptT hgda (.inl rfl)).mono (Nat.zero_le _)
      have HP2 : Hid (PartIs w2.heap.size (Wd.alloc (.cells #[.slice ra1 R.name.length ra2, .slice ra3 R.key.length ra4, .bool R.gone, .slice ra5 R.value.length ra6] 29)) (.slice ra3 R.key.length ra4) R.key) := (HR2.out.keptT hgda (.inl rfl)).mono (Nat.zero_le _)
      have HP3 : Hid (PartIs w2.heap.size (Wd.alloc (.cells #[.slice ra1 R.name.length ra2, .slice ra3 R.key.length ra4, .bool R.gone, .slice ra5 R.value.length ra6] 29)) (.slice ra5 R.value.length ra6) R.value) := (HR3.out.keptT hgda (.inl rfl)).mono (Nat.zero_le _)
      have hs2 : w2.heap.size ≤ (Wd.alloc (.cells #[.slice ra1 R.name.length ra2, .slice ra3 R.key.length ra4, .bool R.gone, .slice ra5 R.value.length ra6] 29)).heap.size := (grown_trans hgA2 (grown_trans hg23 hgda)).size
      have HS2 : Hid (w2.heap.size ≤ (Wd.alloc (.cells #[.slice ra1 R.name.length ra2, .slice ra3 R.key.length ra4, .bool R.gone, .slice ra5 R.value.length ra6] 29)).heap.size) := hs2
      have hs1 := hg2.size
      have hs0 := (grown_trans hg01 hg2).size
      have f0 := hgd.cell b0 (by simp)
      have f1 := hgd.cell b1 (by simp)
      have f2 := hgd.cell b2 (by simp)
      have f3 := hgd.cell b3 (by simp)
      clear hown hs2
      go_wp2_with (at_builtin; refine wpList_append_wr rfl _ _ rfl w2.heap.size (.slice (some ⟨w2.heap.size, 0, none⟩) 1 1) [Q] rfl HOW.out (.slice ra1 R.name.length ra2) (.slice ra3 R.key.length ra4) (.slice ra5 R.value.length ra6) R HP1.out HP2.out HP3.out Wd.heap.size (heap_alloc_new Wd _) rfl (by simp) HS2.out ?_; intro v5 w5 ho5 hg5; have HO5 : Hid (WritesIs w5 v5 ([Q] ++ [R])) := ho5.list; have hT1W5 : w1.grownBy w5 none := grown_new (grown_trans hg13 hgda) hs1 hg5; have h0W5 : w.grownBy w5 none := grown_new (grown_trans hg03 hgda) hs0 hg5; obtain ⟨a5, c5, rfl⟩ := ho5.shape; clear ho5 hg5)
      have HWR : Hid (WritesIs w5 (.slice a5 2 c5) ws) := (HWS.out _ _).2 HNE.out HO5.out
      refine (AP1.out _ _ _ (HT1.out.grown hT1W5) HWR.out).mono ?_
      rintro e w6 ⟨x6, rfl, h6, hg6⟩
      obtain ⟨a6, c6, rfl⟩ := h6.shape
      have hgF := grown_trans h0W5 hg6
      clear h6
      go_wp2
      go_ret
      exact ⟨rfl, hgF⟩
end Go.Proofs.Ytkkcjnhfbblgiac
