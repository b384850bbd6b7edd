/-
  The walk of canopykeep.ApplyGet, over what the code must keep.
-/
import Derived.Test.YtkkcjnhfbblgiabLFK
import Derived.Test.YtkkcjnhfbblgiabKSame
namespace Go.Proofs.Ytkkcjnhfbblgiab
open Go.RowKit
set_option maxRecDepth 100000 in
set_option maxHeartbeats 4000000 in
theorem applyGet_walk (hA : FApplyOK) (hG : FGetOK) (hC : FCheckOK) (w : World) (v p o : Value) (l : List Plc) (P O : Plc) (hv : PlacesIs w v l) (hp : PlaceIs w p P) (ho : PlaceIs w o O) (hl : FitsQ l) (hP : PlcFits P) (hO : PlcFits O) :
    Calls Try.prog 3 #[v, p, o] w fun e w' => e = .returned (.bool true) ∧ w.grownBy w' none := by
  obtain ⟨hF, hS⟩ := mkP_ok l 30
  have HFO : Hid (∀ w', w.grownBy w' none → Calls Try.prog 6 #[v, .int .i64 30] w' fun e w'' => ∃ v', e = .returned v' ∧ TensIs w'' v' (mkP l 30) ∧ w'.grownBy w'' none) := fun w' hg => kforest_any hA w' v l 30 (hv.grown hg) hl (by omega)
  have HWP : Hid (∀ w', w.grownBy w' none → Calls Try.prog 7 #[p] w' fun e w'' => ∃ na nc ka kc va vc, e = .returned (.agg #[.slice na (writeF P).name.length nc, .slice ka (writeF P).key.length kc, .bool (writeF P).gone, .slice va (writeF P).value.length vc]) ∧ SliceIs w'' (.slice na (writeF P).name.length nc) (writeF P).name ∧ SliceIs w'' (.slice ka (writeF P).key.length kc) (writeF P).key ∧ SliceIs w'' (.slice va (writeF P).value.length vc) (writeF P).value ∧ w'.grownBy w'' none) := fun w' hg => write_of w' p P (hp.grown hg) hP
  have HWO : Hid (∀ w', w.grownBy w' none → Calls Try.prog 7 #[o] w' fun e w'' => ∃ na nc ka kc va vc, e = .returned (.agg #[.slice na (writeF O).name.length nc, .slice ka (writeF O).key.length kc, .bool (writeF O).gone, .slice va (writeF O).value.length vc]) ∧ SliceIs w'' (.slice na (writeF O).name.length nc) (writeF O).name ∧ SliceIs w'' (.slice ka (writeF O).key.length kc) (writeF O).key ∧ SliceIs w'' (.slice va (writeF O).value.length vc) (writeF O).value ∧ w'.grownBy w'' none) := fun w' hg => write_of w' o O (ho.grown hg) hO
  have hq := writeF_ok P
  have hr := writeF_ok O
  have hgv : (writeF P).gone = true → (writeF P).value = [] := fun h => by
    have := ((writeE_iff _).1 hq).2.2
    rwa [if_pos h] at this
  generalize writeF P = Q at *
  generalize writeF O = R at *
  obtain ⟨hqn, hqk, _⟩ := (writeE_iff Q).1 hq
  obtain ⟨hrn, hrk, _⟩ := (writeE_iff R).1 hr
  generalize mkP l 30 = f at *
  have AP : Hid (∀ w' v' u', TensIs w' v' f → WritesIs w' u' [Q] → Calls Try.prog 8 #[v', u'] w' fun e w'' => ∃ x, e = .returned (.tuple #[x, .int .i64 (applyE f [Q])]) ∧ TensIs w'' x (if applyE f [Q] = 0 then applyL f [Q] else []) ∧ w'.grownBy w'' none) := fun w' v' u' h1 h2 => FApplyOK.of hA w' v' u' f [Q] h1 h2 hF (fun x hx => by simp at hx; rw [hx]; exact hq) (by simp)
  obtain ⟨pa1, pa2, pa3, pa4, pa5, pa6, rfl⟩ := hp.cells
  obtain ⟨oa1, oa2, oa3, oa4, oa5, oa6, rfl⟩ := ho.cells
  obtain ⟨la, lc, rfl⟩ := hv.shape
  obtain ⟨W0, hW0⟩ : ∃ W0 : World, W0 = (w.alloc (.cells #[.slice pa1 P.name.length pa2, .slice pa3 P.key.length pa4, .slice pa5 P.value.length pa6, .bool P.gone] 25)).alloc (.cells #[.slice oa1 O.name.length oa2, .slice oa3 O.key.length oa4, .slice oa5 O.value.length oa6, .bool O.gone] 25) := ⟨_, rfl⟩
  have HW0 : Hid (W0 = (w.alloc (.cells #[.slice pa1 P.name.length pa2, .slice pa3 P.key.length pa4, .slice pa5 P.value.length pa6, .bool P.gone] 25)).alloc (.cells #[.slice oa1 O.name.length oa2, .slice oa3 O.key.length oa4, .slice oa5 O.value.length oa6, .bool O.gone] 25)) := hW0
  have hgW : w.grownBy W0 none := by rw [hW0]; exact grown_alloc (World.grownBy_alloc _ _ _) _
  have BP : Hid (W0.heap[w.heap.size]? = some (.cells #[.slice pa1 P.name.length pa2, .slice pa3 P.key.length pa4, .slice pa5 P.value.length pa6, .bool P.gone] 25)) := by
    show _ = _
    rw [hW0, (World.grownBy_alloc _ _ none).block _ (by simp) (by simp)]; exact heap_alloc_new w _
  have BO : Hid (W0.heap[w.heap.size + 1]? = some (.cells #[.slice oa1 O.name.length oa2, .slice oa3 O.key.length oa4, .slice oa5 O.value.length oa6, .bool O.gone] 25)) := by
    have := heap_alloc_new (w.alloc (.cells #[.slice pa1 P.name.length pa2, .slice pa3 P.key.length pa4, .slice pa5 P.value.length pa6, .bool P.gone] 25)) (.cells #[.slice oa1 O.name.length oa2, .slice oa3 O.key.length oa4, .slice oa5 O.value.length oa6, .bool O.gone] 25)
    rw [World.size_alloc] at this
    show _ = _
    rw [hW0]; exact this
  clear hp ho hv hW0 hP hO hl
  generalize P.name.length = pn at *
  generalize P.key.length = pk at *
  generalize P.value.length = pv at *
  generalize P.gone = pg at *
  generalize O.name.length = on at *
  generalize O.key.length = ok at *
  generalize O.value.length = ov at *
  generalize O.gone = og at *
  have hroom := hF.room
  by_cases hz : applyE f [Q] = 0
  · have hw0 : writtenE f Q = 0 := by rw [← (apply_one hq).1]; exact hz
    have hN := written_forest hF hq hw0
    have hgw := get_written hF Q
    rw [hz, if_pos rfl, (apply_one hq).2] at AP
    have G1 : Hid (∀ w' v' r' u', TensIs w' v' (writtenL f Q) → SliceIs w' r' Q.name → SliceIs w' u' Q.key → Calls Try.prog 9 #[v', r', u'] w' fun e w'' => ∃ xa xc, e = .returned (.tuple #[.agg #[.bool (!Q.gone), .slice xa Q.value.length xc], .int .i64 0]) ∧ SliceIs w'' (.slice xa Q.value.length xc) Q.value ∧ w'.grownBy w'' none) := fun w' v' r' u' h1 h2 h3 => by
      have := FGetOK.of hG w' v' r' u' _ _ _ h1 h2 h3 hN hqn hqk
      rw [hgw, if_pos ⟨rfl, rfl⟩] at this
      cases hgo : Q.gone with
      | true => rw [hgo] at this; rw [hgv hgo]; exact this
      | false => rw [hgo] at this; exact this
    have G2 : Hid (∀ w' v' r' u', TensIs w' v' (writtenL f Q) → SliceIs w' r' R.name → SliceIs w' u' R.key → Calls Try.prog 9 #[v', r', u'] w' fun e w'' => ∃ xa xc, e = .returned (.tuple #[.agg #[.bool (getF (ofF (writtenL f Q) R.name) R.key).isSome, .slice xa ((getF (ofF (writtenL f Q) R.name) R.key).getD []).length xc], .int .i64 0]) ∧ SliceIs w'' (.slice xa ((getF (ofF (writtenL f Q) R.name) R.key).getD []).length xc) ((getF (ofF (writtenL f Q) R.name) R.key).getD []) ∧ w'.grownBy w'' none) := fun w' v' r' u' h1 h2 h3 => FGetOK.of hG w' v' r' u' _ _ _ h1 h2 h3 hN hrn hrk
    have G3 : Hid (∀ w' v' r' u', TensIs w' v' f → SliceIs w' r' R.name → SliceIs w' u' R.key → Calls Try.prog 9 #[v', r', u'] w' fun e w'' => ∃ xa xc, e = .returned (.tuple #[.agg #[.bool (getF (ofF f R.name) R.key).isSome, .slice xa ((getF (ofF f R.name) R.key).getD []).length xc], .int .i64 0]) ∧ SliceIs w'' (.slice xa ((getF (ofF f R.name) R.key).getD []).length xc) ((getF (ofF f R.name) R.key).getD []) ∧ w'.grownBy w'' none) := fun w' v' r' u' h1 h2 h3 => FGetOK.of hG w' v' r' u' _ _ _ h1 h2 h3 hF hrn hrk
    have CK : Hid (∀ w' v', TensIs w' v' (writtenL f Q) → Calls Try.prog 10 #[v'] w' fun e w'' => e = .returned (.int .i64 0) ∧ w'.grownBy w'' none) := fun w' v' h => FCheckOK.of hC w' v' _ h hN
    have HEQ : Hid (¬ (Q.name = R.name ∧ Q.key = R.key) → getF (ofF (writtenL f Q) R.name) R.key = getF (ofF f R.name) R.key) := fun h => by rw [hgw, if_neg h]
    generalize getF (ofF (writtenL f Q) R.name) R.key = gy at *
    generalize getF (ofF f R.name) R.key = gz at *
    generalize writtenL f Q = N at *
    have hqv : Q.value.length = Q.value.length := rfl
    clear hgw hN hw0 hz hq hr hA hG hC hqn hqk hrn hrk hgv hqv hS hF
    go_enter Try.func3, Try.ntmps3
    go_wp2_with fail
    rw [← HW0.out]
    go_wp2_with fail
    refine (HFO.out _ hgW).mono ?_
    rintro e w1 ⟨v1, rfl, h1, hg1⟩
    obtain ⟨fa, fc, rfl⟩ := h1.shape
    have HT1 : Hid (TensIs w1 (.slice fa f.length fc) f) := h1
    have hg01 := grown_trans hgW hg1
    obtain ⟨⟨p0, p1, p2, p3⟩, _⟩ := quad_room hg1 BP.out
    clear h1
    go_wp2_with fail
    refine (HWP.out _ hg01).mono ?_
    rintro e w2 ⟨qa1, qa2, qa3, qa4, qa5, qa6, rfl, hq1, hq2, hq3, hg2⟩
    obtain ⟨W2, HW2, hgA2, B2⟩ := alloc_named w2 (.cells #[.slice qa1 Q.name.length qa2, .slice qa3 Q.key.length qa4, .bool Q.gone, .slice qa5 Q.value.length qa6] 29)
    have HQ1 : Hid (SliceIs W2 (.slice qa1 Q.name.length qa2) Q.name) := hq1.grown hgA2
    have HQ2 : Hid (SliceIs W2 (.slice qa3 Q.key.length qa4) Q.key) := hq2.grown hgA2
    have HQ3 : Hid (SliceIs W2 (.slice qa5 Q.value.length qa6) Q.value) := hq3.grown hgA2
    have hg12 := grown_trans hg2 hgA2
    have hgL2 := grown_trans hg1 hg12
    obtain ⟨⟨o0, o1, o2, o3⟩, _⟩ := quad_room hgL2 BO.out
    have hg02 := grown_trans hg01 hg12
    clear hq1 hq2 hq3 p0 p1 p2 p3
    go_upto_region 3 with fail
    rw [← HW2.out]
    go_wp2_with fail
    refine (HWO.out _ hg02).mono ?_
    rintro e w3 ⟨ra1, ra2, ra3, ra4, ra5, ra6, rfl, hr1, hr2, hr3, hg3⟩
    obtain ⟨W3, HW3, hgA3, B3⟩ := alloc_named w3 (.cells #[.slice ra1 R.name.length ra2, .slice ra3 R.key.length ra4, .bool R.gone, .slice ra5 R.value.length ra6] 29)
    have HR1 : Hid (SliceIs W3 (.slice ra1 R.name.length ra2) R.name) := hr1.grown hgA3
    have HR2 : Hid (SliceIs W3 (.slice ra3 R.key.length ra4) R.key) := hr2.grown hgA3
    have hg23 := grown_trans hg3 hgA3
    obtain ⟨⟨a0, a1, a2, a3⟩, _⟩ := quad_room hg23 B2.out
    have hg13 := grown_trans hg12 hg23
    have hg03 := grown_trans hg02 hg23
    clear hr1 hr2 hr3 o0 o1 o2 o3
    have hwr := writes_one W3 _ _ _ Q (HQ1.out.grown hg23) (HQ2.out.grown hg23) (HQ3.out.grown hg23) 29
    obtain ⟨W4, HW4, hgA4, _⟩ := alloc_named W3 (.cells #[.slice qa1 Q.name.length qa2, .slice qa3 Q.key.length qa4, .bool Q.gone, .slice qa5 Q.value.length qa6] 29)
    rw [← HW4.out] at hwr
    have HWR : Hid (WritesIs W4 (.slice (some ⟨W3.heap.size, 0, none⟩) 1 1) [Q]) := hwr
    clear hwr
    go_upto_region 4 with fail
    rw [← HW3.out]
    go_wp2_with fail
    rw [← HW4.out]
    refine (AP.out _ _ _ (HT1.out.grown (grown_trans hg13 hgA4)) HWR.out).mono ?_
    rintro e w5 ⟨x5, rfl, h5, hg5⟩
    obtain ⟨na5, nc5, rfl⟩ := h5.shape
    have HN5 : Hid (TensIs w5 (.slice na5 N.length nc5) N) := h5
    have hg35 := grown_trans hgA4 hg5
    have hg25 := grown_trans hg23 hg35
    obtain ⟨⟨b0, b1, b2, b3⟩, _⟩ := quad_room hg25 B2.out
    have hg05 := grown_trans hg03 hg35
    have hg15 := grown_trans hg13 hg35
    clear h5 a0 a1 a2 a3
    go_wp2_with fail
    refine (G1.out _ _ _ _ HN5.out (HQ1.out.grown hg25) (HQ2.out.grown hg25)).mono ?_
    rintro e w6 ⟨xa, xc, rfl, hx6, hg6⟩
    obtain ⟨W6, HW6, hgA6, B6⟩ := alloc_named w6 (.cells #[.bool (!Q.gone), .slice xa Q.value.length xc] 36)
    have HX6 : Hid (SliceIs W6 (.slice xa Q.value.length xc) Q.value) := hx6.grown hgA6
    have hg56 := grown_trans hg6 hgA6
    have hg36 := grown_trans hg35 hg56
    obtain ⟨⟨c0, c1, c2, c3⟩, _⟩ := quad_room hg36 B3.out
    clear hx6 b0 b1 b2 b3
    go_upto_region 8 with fail
    rw [← HW6.out]
    go_wp2_with fail
    refine (G2.out _ _ _ _ (HN5.out.grown hg56) (HR1.out.grown hg36) (HR2.out.grown hg36)).mono ?_
    rintro e w7 ⟨ya, yc, rfl, hx7, hg7⟩
    obtain ⟨W7, HW7, hgA7, B7⟩ := alloc_named w7 (.cells #[.bool gy.isSome, .slice ya (gy.getD []).length yc] 36)
    have HX7 : Hid (SliceIs W7 (.slice ya (gy.getD []).length yc) (gy.getD [])) := hx7.grown hgA7
    have hg67 := grown_trans hg7 hgA7
    have hg37 := grown_trans hg36 hg67
    obtain ⟨⟨d0, d1, d2, d3⟩, _⟩ := quad_room hg37 B3.out
    clear hx7 c0 c1 c2 c3
    go_upto_region 9 with fail
    rw [← HW7.out]
    go_wp2_with fail
    refine (G3.out _ _ _ _ (HT1.out.grown (grown_trans hg13 hg37)) (HR1.out.grown hg37) (HR2.out.grown hg37)).mono ?_
    rintro e w8 ⟨za, zc, rfl, hx8, hg8⟩
    obtain ⟨W8, HW8, hgA8, B8⟩ := alloc_named w8 (.cells #[.bool gz.isSome, .slice za (gz.getD []).length zc] 36)
    have HX8 : Hid (SliceIs W8 (.slice za (gz.getD []).length zc) (gz.getD [])) := hx8.grown hgA8
    have hg78 := grown_trans hg8 hgA8
    have hg58 := grown_trans hg56 (grown_trans hg67 hg78)
    have hg08 := grown_trans hg05 hg58
    clear hx8 d0 d1 d2 d3
    go_upto_region 10 with fail
    rw [← HW8.out]
    go_wp2_with fail
    refine (CK.out _ _ (HN5.out.grown hg58)).mono ?_
    rintro e w9 ⟨rfl, hg9⟩
    have hg69 := grown_trans hg67 (grown_trans hg78 hg9)
    have hg39 := grown_trans hg36 hg69
    have hg29 := grown_trans hg23 hg39
    obtain ⟨x0, x1, _, _⟩ := pair_room hg69 B6.out
    obtain ⟨⟨q0, q1, q2, q3⟩, _⟩ := quad_room hg29 B2.out
    have hgg : ((!Q.gone) == Q.gone) = false := by cases Q.gone <;> rfl
    have SM1 : Hid (Calls Try.prog 11 #[.slice xa Q.value.length xc, .slice qa5 Q.value.length qa6] w9 fun e w' => e = .returned (.bool true) ∧ w' = w9) := by
      have := same_any w9 _ _ Q.value Q.value (HX6.out.grown hg69) (HQ3.out.grown hg29)
      rw [decide_eq_true rfl] at this
      exact this
    obtain ⟨r0, r1, r2, r3⟩ : w9.cell? ⟨w3.heap.size, 0, none⟩ = some (.slice ra1 R.name.length ra2) ∧ w9.cell? ⟨w3.heap.size, 1, none⟩ = some (.slice ra3 R.key.length ra4) ∧ w9.cell? ⟨w3.heap.size, 2, none⟩ = some (.bool R.gone) ∧ w9.cell? ⟨w3.heap.size, 3, none⟩ = some (.slice ra5 R.value.length ra6) := (quad_room hg39 B3.out).1
    have hg79 := grown_trans hg78 hg9
    obtain ⟨y0, y1, _, _⟩ := pair_room hg79 B7.out
    obtain ⟨z0, z1, _, _⟩ := pair_room hg9 B8.out
    have SMN : Hid (Calls Try.prog 11 #[.slice qa1 Q.name.length qa2, .slice ra1 R.name.length ra2] w9 fun e w' => e = .returned (.bool (decide (Q.name = R.name))) ∧ w' = w9) := same_any w9 _ _ _ _ (HQ1.out.grown hg29) (HR1.out.grown hg39)
    have SMK : Hid (Calls Try.prog 11 #[.slice qa3 Q.key.length qa4, .slice ra3 R.key.length ra4] w9 fun e w' => e = .returned (.bool (decide (Q.key = R.key))) ∧ w' = w9) := same_any w9 _ _ _ _ (HQ2.out.grown hg29) (HR2.out.grown hg39)
    have SMV : Hid (Calls Try.prog 11 #[.slice ya (gy.getD []).length yc, .slice za (gz.getD []).length zc] w9 fun e w' => e = .returned (.bool (decide (gy.getD [] = gz.getD []))) ∧ w' = w9) := same_any w9 _ _ _ _ (HX7.out.grown hg79) (HX8.out.grown hg9)
    have HND : Hid (Q.name = R.name ∨ ¬ Q.name = R.name) := Classical.em _
    have HKD : Hid (Q.key = R.key ∨ ¬ Q.key = R.key) := Classical.em _
    have hgF := grown_trans hg08 hg9
    clear hg9 hg79 hg39 hg29 hg69 hg58 hg78 hgA8 hg8 hg37 hg67 hgA7 hg7 hg36 hg56 hgA6 hg6 hg15 hg05 hg25 hg35 hg5 hgA4 hg03 hg13 hg23 hgA3 hg3 hg02 hgL2 hg12 hgA2 hg2 hg01 hg1 hgW
    generalize hva : Q.value.length = qvl at *
    go_wp2_with fail
    refine SM1.out.mono ?_
    rintro e w' ⟨rfl, rfl⟩
    go_wp2_with fail
    refine SMN.out.mono ?_
    rintro e w' ⟨rfl, rfl⟩
    rcases HND.out with hn | hn
    · rw [decide_eq_true hn]
      go_wp2_with fail
      refine SMK.out.mono ?_
      rintro e w' ⟨rfl, rfl⟩
      rcases HKD.out with hk | hk
      · rw [decide_eq_true hk]
        clear hn hk
        go_wp2
        go_ret
        exact ⟨rfl, hgF⟩
      · rw [decide_eq_false hk]
        have he : gy = gz := HEQ.out (fun h => hk h.2)
        subst he
        rw [decide_eq_true rfl] at SMV
        have hbb : (gy.isSome == gy.isSome) = true := by simp
        generalize gy.isSome = GB at *
        clear hn hk
        go_wp2_with fail
        refine SMV.out.mono ?_
        rintro e w' ⟨rfl, rfl⟩
        go_wp2
        go_ret
        exact ⟨rfl, hgF⟩
    · rw [decide_eq_false hn]
      have he : gy = gz := HEQ.out (fun h => hn h.1)
      subst he
      rw [decide_eq_true rfl] at SMV
      have hbb : (gy.isSome == gy.isSome) = true := by simp
      generalize gy.isSome = GB at *
      clear hn
      go_wp2_with fail
      refine SMV.out.mono ?_
      rintro e w' ⟨rfl, rfl⟩
      go_wp2
      go_ret
      exact ⟨rfl, hgF⟩
  · obtain ⟨h11, h8⟩ := apply_room hF hq hS (by omega) hz
    rw [h11, if_neg (by decide)] at AP
    have t8 : ((f.length : Int) == 8) = true := by simp [h8]
    clear hz hq hr hA hG hC hqn hqk hrn hrk hgv hS hF h11 h8
    go_enter Try.func3, Try.ntmps3
    go_wp2_with fail
    rw [← HW0.out]
    go_wp2_with fail
    refine (HFO.out _ hgW).mono ?_
    rintro e w1 ⟨v1, rfl, h1, hg1⟩
    obtain ⟨fa, fc, rfl⟩ := h1.shape
    have HT1 : Hid (TensIs w1 (.slice fa f.length fc) f) := h1
    have hg01 := grown_trans hgW hg1
    obtain ⟨⟨p0, p1, p2, p3⟩, _⟩ := quad_room hg1 BP.out
    clear h1
    go_wp2_with fail
    refine (HWP.out _ hg01).mono ?_
    rintro e w2 ⟨qa1, qa2, qa3, qa4, qa5, qa6, rfl, hq1, hq2, hq3, hg2⟩
    obtain ⟨W2, HW2, hgA2, B2⟩ := alloc_named w2 (.cells #[.slice qa1 Q.name.length qa2, .slice qa3 Q.key.length qa4, .bool Q.gone, .slice qa5 Q.value.length qa6] 29)
    have HQ1 : Hid (SliceIs W2 (.slice qa1 Q.name.length qa2) Q.name) := hq1.grown hgA2
    have HQ2 : Hid (SliceIs W2 (.slice qa3 Q.key.length qa4) Q.key) := hq2.grown hgA2
    have HQ3 : Hid (SliceIs W2 (.slice qa5 Q.value.length qa6) Q.value) := hq3.grown hgA2
    have hg12 := grown_trans hg2 hgA2
    have hgL2 := grown_trans hg1 hg12
    obtain ⟨⟨o0, o1, o2, o3⟩, _⟩ := quad_room hgL2 BO.out
    have hg02 := grown_trans hg01 hg12
    clear hq1 hq2 hq3 p0 p1 p2 p3
    go_upto_region 3 with fail
    rw [← HW2.out]
    go_wp2_with fail
    refine (HWO.out _ hg02).mono ?_
    rintro e w3 ⟨ra1, ra2, ra3, ra4, ra5, ra6, rfl, hr1, hr2, hr3, hg3⟩
    obtain ⟨W3, HW3, hgA3, B3⟩ := alloc_named w3 (.cells #[.slice ra1 R.name.length ra2, .slice ra3 R.key.length ra4, .bool R.gone, .slice ra5 R.value.length ra6] 29)
    have hg23 := grown_trans hg3 hgA3
    obtain ⟨⟨a0, a1, a2, a3⟩, _⟩ := quad_room hg23 B2.out
    have hg13 := grown_trans hg12 hg23
    have hg03 := grown_trans hg02 hg23
    clear hr1 hr2 hr3 o0 o1 o2 o3
    have hwr := writes_one W3 _ _ _ Q (HQ1.out.grown hg23) (HQ2.out.grown hg23) (HQ3.out.grown hg23) 29
    obtain ⟨W4, HW4, hgA4, _⟩ := alloc_named W3 (.cells #[.slice qa1 Q.name.length qa2, .slice qa3 Q.key.length qa4, .bool Q.gone, .slice qa5 Q.value.length qa6] 29)
    rw [← HW4.out] at hwr
    have HWR : Hid (WritesIs W4 (.slice (some ⟨W3.heap.size, 0, none⟩) 1 1) [Q]) := hwr
    clear hwr
    go_upto_region 4 with fail
    rw [← HW3.out]
    go_wp2_with fail
    rw [← HW4.out]
    refine (AP.out _ _ _ (HT1.out.grown (grown_trans hg13 hgA4)) HWR.out).mono ?_
    rintro e w5 ⟨x5, rfl, h5, hg5⟩
    obtain ⟨na5, nc5, rfl⟩ := h5.shape
    have hg05 := grown_trans hg03 (grown_trans hgA4 hg5)
    clear h5 a0 a1 a2 a3
    generalize List.length f = fl at *
    go_wp2
    go_ret
    exact ⟨rfl, hg05⟩
end Go.Proofs.Ytkkcjnhfbblgiab
