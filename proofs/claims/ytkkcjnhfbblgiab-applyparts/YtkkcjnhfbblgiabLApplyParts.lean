/-
  The walk of canopykeep.ApplyParts, over what the code must keep.
-/
import Derived.Test.YtkkcjnhfbblgiabLFK
import Derived.Test.YtkkcjnhfbblgiabKSameF
import Derived.Test.YtkkcjnhfbblgiabWrMore
namespace Go.Proofs.Ytkkcjnhfbblgiab
open Go.RowKit
set_option maxRecDepth 100000 in
set_option maxHeartbeats 1000000 in
theorem applyParts_walk (hA : FApplyOK) (w : World) (v p o : Value) (l la lb : List Plc) (hv : PlacesIs w v l) (hp : PlacesIs w p la) (ho : PlacesIs w o lb) (hl : FitsQ l) (hP : FitsQ la) (hO : FitsQ lb) :
    Calls Try.prog 4 #[v, p, o] w fun e w' => e = .returned (.bool true) ∧ w.grownBy w' none := by
  obtain ⟨hF, hS⟩ := mkP_ok l 20
  have HFO : Hid (Calls Try.prog 6 #[v, .int .i64 20] w fun e w'' => ∃ v', e = .returned v' ∧ TensIs w'' v' (mkP l 20) ∧ w.grownBy w'' none) := kforest_any hA w v l 20 hv hl (by omega)
  have HWX : Hid (∀ w', w.grownBy w' none → Calls Try.prog 12 #[p, .int .i64 5] w' fun e w'' => ∃ v', e = .returned v' ∧ OwnW w'.heap.size w'' v' ((la.take 5).map writeF) ∧ w'.grownBy w'' none) := fun w' hg => kwrites_any w' p la 5 (hp.grown hg) hP (by omega)
  have HWY : Hid (∀ w', w.grownBy w' none → Calls Try.prog 12 #[o, .int .i64 5] w' fun e w'' => ∃ v', e = .returned v' ∧ OwnW w'.heap.size w'' v' ((lb.take 5).map writeF) ∧ w'.grownBy w'' none) := fun w' hg => kwrites_any w' o lb 5 (ho.grown hg) hO (by omega)
  have hX : ∀ x ∈ (la.take 5).map writeF, writeE x = 0 := fun x hx => by
    obtain ⟨p, _, rfl⟩ := List.mem_map.1 hx
    exact writeF_ok p
  have hY : ∀ x ∈ (lb.take 5).map writeF, writeE x = 0 := fun x hx => by
    obtain ⟨p, _, rfl⟩ := List.mem_map.1 hx
    exact writeF_ok p
  have lX : ((la.take 5).map writeF).length ≤ 5 := by simp; omega
  have lY : ((lb.take 5).map writeF).length ≤ 5 := by simp; omega
  generalize (la.take 5).map writeF = X at *
  generalize (lb.take 5).map writeF = Y at *
  generalize mkP l 20 = f at *
  have hXY : ∀ x ∈ X ++ Y, writeE x = 0 := fun x hx => by
    rcases List.mem_append.1 hx with h | h
    · exact hX x h
    · exact hY x h
  have AP1 : Hid (∀ w' v' u', TensIs w' v' f → WritesIs w' u' (X ++ Y) → Calls Try.prog 8 #[v', u'] w' fun e w'' => ∃ x, e = .returned (.tuple #[x, .int .i64 (applyE f (X ++ Y))]) ∧ TensIs w'' x (if applyE f (X ++ Y) = 0 then applyL f (X ++ Y) else []) ∧ w'.grownBy w'' none) := fun w' v' u' h1 h2 => FApplyOK.of hA w' v' u' f _ h1 h2 hF hXY (by simp; omega)
  have AP2 : Hid (∀ w' v' u', TensIs w' v' f → WritesIs w' u' X → Calls Try.prog 8 #[v', u'] w' fun e w'' => ∃ x, e = .returned (.tuple #[x, .int .i64 (applyE f X)]) ∧ TensIs w'' x (if applyE f X = 0 then applyL f X else []) ∧ w'.grownBy w'' none) := fun w' v' u' h1 h2 => FApplyOK.of hA w' v' u' f _ h1 h2 hF hX (by omega)
  have AP4 : Hid (∀ w' v' u', TensIs w' v' f → WritesIs w' u' [noPlc] → Calls Try.prog 8 #[v', u'] w' fun e w'' => ∃ x, e = .returned (.tuple #[x, .int .i64 1]) ∧ TensIs w'' x [] ∧ w'.grownBy w'' none) := fun w' v' u' h1 h2 => by
    have e0 : writeE noPlc = 1 := by decide
    have e1 : appliedE f [noPlc] = 1 := by rw [appliedE, if_pos ((forest_iff f).2 hF), if_neg (by simp), applyE, if_neg (by rw [e0]; decide), e0]
    have e2 : appliedF f [noPlc] = [] := by rw [appliedF, e1]; rfl
    have := hA w' v' u' f _ h1 h2 hF.fits ⟨by simp, fun i hi => by
      obtain rfl : i = 0 := by simpa using hi
      exact ⟨by simp [noPlc], by simp [noPlc], by simp [noPlc]⟩⟩
    rw [e1, e2] at this
    exact this
  obtain ⟨q1, q2⟩ := apply_append X Y f
  have hfull := apply_full X f 20 hF hX hS (by omega)
  obtain ⟨pa, pc, rfl⟩ := hp.shape
  obtain ⟨oa, oc, rfl⟩ := ho.shape
  obtain ⟨va, vc, rfl⟩ := hv.shape
  have hroom := hF.room
  obtain ⟨Z, hZ⟩ : ∃ Z, Z = (if applyE f (X ++ Y) = 0 then applyL f (X ++ Y) else []) := ⟨_, rfl⟩
  by_cases hz : applyE f X = 0
  · have hH := apply_forest _ _ hF hz
    have AP3 : Hid (∀ w' v' u', TensIs w' v' (applyL f X) → WritesIs w' u' Y → Calls Try.prog 8 #[v', u'] w' fun e w'' => ∃ x, e = .returned (.tuple #[x, .int .i64 (applyE (applyL f X) Y)]) ∧ TensIs w'' x (if applyE (applyL f X) Y = 0 then applyL (applyL f X) Y else []) ∧ w'.grownBy w'' none) := fun w' v' u' h1 h2 => FApplyOK.of hA w' v' u' _ _ h1 h2 hH hY (by omega)
    rw [if_pos hz] at q1
    rw [← hZ, q1] at AP1
    rw [← q1, ← q2, ← hZ, q1] at AP3
    rw [hz, if_pos rfl] at AP2
    have HFZ : Hid (FitsT Z) := by
      rw [hZ, q1, q2]
      by_cases h0 : applyE (applyL f X) Y = 0
      · rw [if_pos h0]; exact (apply_forest _ _ hH h0).fits
      · rw [if_neg h0]; exact ⟨by simp, by simp⟩
    generalize applyE (applyL f X) Y = E at *
    generalize applyL f X = H at *
    have hEE : (E == E) = true := by simp
    clear hz hH q1 q2 hfull hX hY hXY hF hS hA hp ho hv hl hP hO hZ
    go_enter Try.func4, Try.ntmps4
    go_wp2_with fail
    refine HFO.out.mono ?_
    rintro e w1 ⟨v1, rfl, h1, hg1⟩
    obtain ⟨fa, fc, rfl⟩ := h1.shape
    have HT1 : Hid (TensIs w1 (.slice fa f.length fc) f) := h1
    clear h1
    go_wp2_with fail
    refine (HWX.out _ hg1).mono ?_
    rintro e w2 ⟨v2, rfl, h2, hg2⟩
    obtain ⟨xa, xc, rfl⟩ := h2.shape
    have HX2 : Hid (WritesIs w2 (.slice xa X.length xc) X) := h2.list
    have hg02 := grown_trans hg1 hg2
    clear h2
    go_wp2_with fail
    refine (HWY.out _ hg02).mono ?_
    rintro e w3 ⟨v3, rfl, h3, hg3⟩
    obtain ⟨ya, yc, rfl⟩ := h3.shape
    have HY3 : Hid (WritesIs w3 (.slice ya Y.length yc) Y) := h3.list
    have HX3 : Hid (WritesIs w3 (.slice xa X.length xc) X) := HX2.out.grown hg3
    have hg03 := grown_trans hg02 hg3
    clear h3
    go_wp2_with (at_builtin; first
      | (refine wpList_append_wrs rfl _ _ rfl w3.heap.size (.slice none 0 0) [] rfl (ownW_nil _ _) w3 (grown_refl _ _) (Nat.le_refl _) xa X.length xc X rfl HX3.out (by simp; omega) (Nat.le_refl _) ?_; intro v4 w4 ho4 hg4; rw [List.nil_append] at ho4; have HO4 : Hid (OwnW w3.heap.size w4 v4 X) := ho4; have hg34 : w3.grownBy w4 none := hg4; obtain ⟨a4, c4, rfl⟩ := ho4.shape; have hs4 := hg34.size; clear ho4 hg4)
      | (refine wpList_append_wrs rfl _ _ rfl w3.heap.size (.slice a4 X.length c4) X rfl HO4.out w3 hg34 (Nat.le_refl _) ya Y.length yc Y rfl HY3.out (by omega) hs4 ?_; intro v5 w5 ho5 hg5; have HO5 : Hid (WritesIs w5 v5 (X ++ Y)) := ho5.list; have hg35 : w3.grownBy w5 none := grown_ownW hg34 HO4.out (Nat.le_refl _) hg5; obtain ⟨a5, c5, rfl⟩ := ho5.shape; rw [List.length_append] at HO5; clear ho5 hg5))
    have hg15 := grown_trans hg2 (grown_trans hg3 hg35)
    refine (AP1.out _ _ _ (HT1.out.grown hg15) HO5.out).mono ?_
    rintro e w6 ⟨x6, rfl, h6, hg6⟩
    have HX6 : Hid (TensIs w6 x6 Z) := h6
    obtain ⟨a6, c6, rfl⟩ := h6.shape
    have hg16 := grown_trans hg15 hg6
    have hg36 := grown_trans hg35 hg6
    clear h6
    go_wp2_with fail
    refine (AP2.out _ _ _ (HT1.out.grown hg16) (HX3.out.grown hg36)).mono ?_
    rintro e w7 ⟨x7, rfl, h7, hg7⟩
    have HX7 : Hid (TensIs w7 x7 H) := h7
    obtain ⟨a7, c7, rfl⟩ := h7.shape
    have hg17 := grown_trans hg16 hg7
    have hg37 := grown_trans hg36 hg7
    clear h7
    go_wp2_with fail
    refine (AP3.out _ _ _ HX7.out (HY3.out.grown hg37)).mono ?_
    rintro e w8 ⟨x8, rfl, h8, hg8⟩
    have HX8 : Hid (TensIs w8 x8 Z) := h8
    obtain ⟨a8, c8, rfl⟩ := h8.shape
    have hg18 := grown_trans hg17 hg8
    have hg68 := grown_trans hg7 hg8
    clear h8
    go_upto_region 9 with fail
    have hwr := writes_one w8 (.slice none 0 0) (.slice none 0 0) (.slice none 0 0) noPlc (sliceIs_nil _) (sliceIs_nil _) (sliceIs_nil _) 29
    obtain ⟨W9, HW9, hgA9, _⟩ := alloc_named w8 (.cells #[.slice none 0 0, .slice none 0 0, .bool false, .slice none 0 0] 29)
    have HWR : Hid (WritesIs W9 (.slice (some ⟨w8.heap.size, 0, none⟩) 1 1) [noPlc]) := by rw [HW9.out]; exact hwr
    clear hwr
    go_wp2_with fail
    rw [← HW9.out]
    refine (AP4.out _ _ _ (HT1.out.grown (grown_trans hg18 hgA9)) HWR.out).mono ?_
    rintro e w10 ⟨x10, rfl, h10, hg10⟩
    obtain ⟨a10, c10, rfl⟩ := h10.shape
    have hg810 := grown_trans hgA9 hg10
    have hg010 := grown_trans hg1 (grown_trans hg18 hg810)
    have SF : Hid (Calls Try.prog 13 #[.slice a6 Z.length c6, .slice a8 Z.length c8] w10 fun e w' => e = .returned (.bool true) ∧ w10.grownBy w' none) := sameForest_same w10 _ _ Z (HX6.out.grown (grown_trans hg68 hg810)) (HX8.out.grown hg810) HFZ.out
    clear h10 hg10 hg68 hg18 hg8 hg37 hg17 hg7 hg36 hg16 hg6 hg15 hg35 hg34 hg03 hg02 hg3 hg2 hg1 hgA9 hs4
    go_wp2_with fail
    refine SF.out.mono ?_
    rintro e w11 ⟨rfl, hg11⟩
    go_wp2
    go_ret
    exact ⟨rfl, grown_trans hg010 hg11⟩
  · have h11 : applyE f X = 11 := by
      rcases hfull with h | h
      · exact absurd h hz
      · exact h
    rw [if_neg hz, h11] at q1
    rw [← hZ, q1] at AP1
    rw [h11, if_neg (by decide)] at AP2
    clear hz q1 q2 hfull hX hY hXY hF hS hA hp ho hv hl hP hO hZ h11
    go_enter Try.func4, Try.ntmps4
    go_wp2_with fail
    refine HFO.out.mono ?_
    rintro e w1 ⟨v1, rfl, h1, hg1⟩
    obtain ⟨fa, fc, rfl⟩ := h1.shape
    have HT1 : Hid (TensIs w1 (.slice fa f.length fc) f) := h1
    clear h1
    go_wp2_with fail
    refine (HWX.out _ hg1).mono ?_
    rintro e w2 ⟨v2, rfl, h2, hg2⟩
    obtain ⟨xa, xc, rfl⟩ := h2.shape
    have HX2 : Hid (WritesIs w2 (.slice xa X.length xc) X) := h2.list
    have hg02 := grown_trans hg1 hg2
    clear h2
    go_wp2_with fail
    refine (HWY.out _ hg02).mono ?_
    rintro e w3 ⟨v3, rfl, h3, hg3⟩
    obtain ⟨ya, yc, rfl⟩ := h3.shape
    have HY3 : Hid (WritesIs w3 (.slice ya Y.length yc) Y) := h3.list
    have HX3 : Hid (WritesIs w3 (.slice xa X.length xc) X) := HX2.out.grown hg3
    have hg03 := grown_trans hg02 hg3
    clear h3
    go_wp2_with (at_builtin; first
      | (refine wpList_append_wrs rfl _ _ rfl w3.heap.size (.slice none 0 0) [] rfl (ownW_nil _ _) w3 (grown_refl _ _) (Nat.le_refl _) xa X.length xc X rfl HX3.out (by simp; omega) (Nat.le_refl _) ?_; intro v4 w4 ho4 hg4; rw [List.nil_append] at ho4; have HO4 : Hid (OwnW w3.heap.size w4 v4 X) := ho4; have hg34 : w3.grownBy w4 none := hg4; obtain ⟨a4, c4, rfl⟩ := ho4.shape; have hs4 := hg34.size; clear ho4 hg4)
      | (refine wpList_append_wrs rfl _ _ rfl w3.heap.size (.slice a4 X.length c4) X rfl HO4.out w3 hg34 (Nat.le_refl _) ya Y.length yc Y rfl HY3.out (by omega) hs4 ?_; intro v5 w5 ho5 hg5; have HO5 : Hid (WritesIs w5 v5 (X ++ Y)) := ho5.list; have hg35 : w3.grownBy w5 none := grown_ownW hg34 HO4.out (Nat.le_refl _) hg5; obtain ⟨a5, c5, rfl⟩ := ho5.shape; rw [List.length_append] at HO5; clear ho5 hg5))
    have hg15 := grown_trans hg2 (grown_trans hg3 hg35)
    refine (AP1.out _ _ _ (HT1.out.grown hg15) HO5.out).mono ?_
    rintro e w6 ⟨x6, rfl, h6, hg6⟩
    obtain ⟨a6, c6, rfl⟩ := h6.shape
    have hg16 := grown_trans hg15 hg6
    have hg36 := grown_trans hg35 hg6
    clear h6
    go_wp2_with fail
    refine (AP2.out _ _ _ (HT1.out.grown hg16) (HX3.out.grown hg36)).mono ?_
    rintro e w7 ⟨x7, rfl, h7, hg7⟩
    obtain ⟨a7, c7, rfl⟩ := h7.shape
    clear h7
    go_wp2
    go_ret
    exact ⟨rfl, grown_trans hg1 (grown_trans hg16 hg7)⟩
end Go.Proofs.Ytkkcjnhfbblgiab
