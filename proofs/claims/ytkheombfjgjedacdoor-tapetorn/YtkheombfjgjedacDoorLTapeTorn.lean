/-
  The walk of canopykeep.TapeTorn, over what the code must keep.
-/
import Derived.Test.YtkheombfjgjedacDoorLTKr
import Derived.Test.YtkheombfjgjedacDoorKBegins
import Derived.Test.YtkheombfjgjedacDoorPicked
import Derived.Test.YtkheombfjgjedacDoorPart3
namespace Go.Proofs.YtkheombfjgjedacDoor
open Go.RowKit
set_option maxRecDepth 100000 in
set_option maxHeartbeats 2000000 in
theorem tapeTorn_walk (hF : FApplyNewOK) (hA : TpAppOK) (hR : TpRecOK) (w : World) (v : Value) (u : Value) (l : List Plc) (cut : Int) (hv : PlacesIs w v l) (hl : FitsQ l) (hn0 : -9223372036854775808 ≤ cut) (hn1 : cut ≤ 9223372036854775807) (ht : Tabs w) :
    Calls Tryd.prog 4 #[v, .int .i64 cut, u] w fun e w' => e = .returned (.bool true) ∧ w.grownBy w' none := by
  obtain ⟨a, cap, rfl⟩ := hv.shape
  have KC : Hid (Calls Tryd.prog 8 #[.slice a l.length cap, .int .i64 16] w fun e w' => ∃ v', e = .returned v' ∧ ∃ cs, CommitsIs w' v' cs ∧ (∃ f, CmtsOf ((l.take 16).map writeF) ((l.take 16).map writeF).length cs f) ∧ w.grownBy w' none) := kcommits_any hF w _ l 16 hv hl (by omega)
  have HA : Hid TpAppOK := hA
  have HR : Hid TpRecOK := hR
  have HT : Hid (Tabs w) := ht
  have hll : l.length ≤ 140737488355328 := by have := hl.1; omega
  clear hv hl hF hA hR ht
  go_enter Tryd.func4, Tryd.ntmps4
  go_wp2_with fail
  refine KC.out.mono ?_
  rintro e w1 ⟨v1, rfl, cs, h1, hco, hg1⟩
  obtain ⟨hi, hcl, hne, hfl, hws⟩ := cmts_facts (by omega) hco
  obtain ⟨ca, cc, rfl⟩ := h1.shape
  have HC1 : Hid (CommitsIs w1 (.slice ca cs.length cc) cs) := h1
  have TD : Hid (Calls Tryd.prog 10 #[.slice ca cs.length cc] w1 fun e w' => ∃ xa xc, e = .returned (.tuple #[.agg #[.slice xa (flatT fourF cs).length xc, .int .i64 0], .bool true]) ∧ SliceIs w' (.slice xa (flatT fourF cs).length xc) (flatT fourF cs) ∧ w1.grownBy w' none) := taped_call HA.out w1 _ cs h1 hi (by omega) (HT.out.grownNone hg1)
  have hdl : (flatT fourF cs).length ≤ 10000 := by omega
  have HIT : Hid (InTurn 1 cs) := hi
  have HWS : Hid (∀ i, i < cs.length → (cs.getD i noCmt).writes.length ≤ 1000000) := hws
  obtain ⟨D, hD⟩ : ∃ D, D = flatT fourF cs := ⟨_, rfl⟩
  have HD : Hid (D = flatT fourF cs) := hD
  have PK : Hid (∀ w', Calls Tryd.prog 9 #[.int .i64 cut, .int .i64 (((flatT fourF cs).length : Int) + 1)] w' fun e w'' => ∃ k : Nat, e = .returned (.int .i64 (k : Int)) ∧ (k : Int) < ((flatT fourF cs).length : Int) + 1 ∧ w'' = w') := fun w' => picked_any cut _ w' hn0 hn1 (by omega) (by omega)
  rw [← hD] at TD hdl PK
  clear h1 hco hws hi hD hfl HA
  go_wp2_with fail
  refine TD.out.mono ?_
  rintro e w2 ⟨ta, tc, rfl, h2, hg2⟩
  obtain ⟨W2, HW2, hgA2, B2⟩ := alloc_named7 w2 (.cells #[.slice ta D.length tc, .int .i64 0] 28)
  have HS2 : Hid (SliceIs W2 (.slice ta D.length tc) D) := h2.grown hgA2
  have hg12 := grown_trans hg2 hgA2
  have hg02 := grown_trans hg1 hg12
  have hcap := h2.cap.1
  clear h2
  go_upto_region 3 with fail
  rw [← HW2.out]
  obtain ⟨c0, c1, _, _⟩ := pair_room (grown_refl W2 none) B2.out
  go_wp2_with fail
  refine (PK.out _).mono ?_
  rintro e w3 ⟨k, rfl, hk, rfl⟩
  have hkD : k ≤ D.length := by omega
  obtain ⟨a1, p1, p2⟩ := bslice_hm ta tc D k hkD hcap
  have p1w := p1 w3
  have HP2 : Hid (SliceIs w3 (.slice a1 k k) (D.take k)) := p2 _ HS2.out
  obtain ⟨j, q1, q2, q3, q4, q5, q6⟩ := rec_part (D := fourF) fourF_len HIT.out k 0 (by rw [← HD.out]; exact hkD) (by omega) (by rw [← HD.out]; omega)
  rw [← HD.out] at q4 q5 q6
  rw [if_neg (by omega)] at q6
  have hjl : (cs.take j).length = j := by simp; omega
  have hit2 := HIT.out.take j
  have hul : (flatT fourF (cs.take j)).length ≤ 10000 := by omega
  obtain ⟨x1, x2, x3⟩ := rec_whole (D := fourF) fourF_len hit2 0 (by omega) (by omega)
  have R1 : Hid (∀ w' x, w.grownBy w' none → TapeIs w' x ⟨D.take k, 0⟩ → Calls Tryd.prog 14 #[x] w' fun e w'' => ∃ va vc xa xc, e = .returned (.tuple #[.slice va (cs.take j).length vc, .agg #[.slice xa (flatT fourF (cs.take j)).length xc, .int .i64 0], .int .i64 0]) ∧ CommitsIs w'' (.slice va (cs.take j).length vc) (cs.take j) ∧ SliceIs w'' (.slice xa (flatT fourF (cs.take j)).length xc) (flatT fourF (cs.take j)) ∧ w'.grownBy w'' none) := fun w' x hg hx => rec_call HR.out w' x _ ⟨flatT fourF (cs.take j), 0⟩ (cs.take j) hx (by show (D.take k).length ≤ _; simp; omega) (by show (0 : Int) ≤ 0 ∧ (0 : Int) ≤ 200000; omega) (HT.out.grownNone hg) q4 q5 q6
  have R2 : Hid (∀ w' x, w.grownBy w' none → TapeIs w' x ⟨flatT fourF (cs.take j), 0⟩ → Calls Tryd.prog 14 #[x] w' fun e w'' => ∃ va vc xa xc, e = .returned (.tuple #[.slice va (cs.take j).length vc, .agg #[.slice xa (flatT fourF (cs.take j)).length xc, .int .i64 0], .int .i64 0]) ∧ CommitsIs w'' (.slice va (cs.take j).length vc) (cs.take j) ∧ SliceIs w'' (.slice xa (flatT fourF (cs.take j)).length xc) (flatT fourF (cs.take j)) ∧ w'.grownBy w'' none) := fun w' x hg hx => rec_call HR.out w' x _ ⟨flatT fourF (cs.take j), 0⟩ (cs.take j) hx (by show (flatT fourF (cs.take j)).length ≤ _; omega) (by show (0 : Int) ≤ 0 ∧ (0 : Int) ≤ 200000; omega) (HT.out.grownNone hg) x1 x2 x3
  have htd : ∀ i, i < j → (cs.take j).getD i noCmt = cs.getD i noCmt := fun i hi => by simp [List.getD_eq_getElem?_getD, hi]
  have BG1 : Hid (∀ w' x y, CommitsIs w' x (cs.take j) → CommitsIs w' y cs → Calls Tryd.prog 15 #[x, y] w' fun e w'' => e = .returned (.bool true) ∧ w'.grownBy w'' none) := fun w' x y h1 h2 => begins_same w' x y _ cs h1 h2 (by rw [hjl]; exact q1) (by omega) (fun i hi => htd i (by omega)) (fun i hi => by rw [htd i (by omega)]; exact HWS.out i (by omega))
  have BG2 : Hid (∀ w' x y, CommitsIs w' x (cs.take j) → CommitsIs w' y (cs.take j) → Calls Tryd.prog 15 #[x, y] w' fun e w'' => e = .returned (.bool true) ∧ w'.grownBy w'' none) := fun w' x y h1 h2 => begins_same w' x y _ _ h1 h2 (Nat.le_refl _) (by omega) (fun _ _ => rfl) (fun i hi => by rw [htd i (by omega)]; exact HWS.out i (by omega))
  have hEQ : (((j : Int) == (cs.length : Int)) == ((k : Int) == (D.length : Int))) = true := by
    by_cases hjc : j = cs.length
    · subst hjc
      rw [List.take_length] at q2
      have : k = D.length := by rw [HD.out] at hkD ⊢; omega
      subst this
      simp
    · have hj2 : j < cs.length := by omega
      have h5 := q3 hj2
      have h6 := flatT_take_le fourF cs (j + 1) cs.length (by omega)
      rw [List.take_length, ← HD.out] at h6
      have : k ≠ D.length := by omega
      have b1 : ((j : Int) == (cs.length : Int)) = false := by simp; omega
      have b2 : ((k : Int) == (D.length : Int)) = false := by simp; omega
      rw [b1, b2]; rfl
  have q2' : (flatT fourF (cs.take j)).length ≤ k := q2
  have HP3 : Hid (TapeIs w3 (.agg #[.slice a1 k k, .int .i64 0]) ⟨D.take k, 0⟩) := ⟨_, rfl, HP2.out⟩
  rw [hjl] at R1 R2
  generalize flatT fourF (cs.take j) = U at *
  generalize cs.take j = gs at *
  clear q1 q2 q3 q4 q5 q6 hit2 x1 x2 x3 htd HIT HD HWS HR p1 p2 hul PK TD
  go_wp2_with fail
  refine (R1.out _ _ hg02 HP3.out).mono ?_
  rintro e w4 ⟨ga, gc, ua, uc, rfl, h4, h4s, hg4⟩
  obtain ⟨W4, HW4, hgA4, B4⟩ := alloc_named7 w4 (.cells #[.slice ua U.length uc, .int .i64 0] 28)
  have hg34 := grown_trans hg4 hgA4
  have hg04 := grown_trans hg02 hg34
  have HC4 : Hid (CommitsIs W4 (.slice ga j gc) gs) := h4.grown hgA4
  have HS4 : Hid (SliceIs W4 (.slice ua U.length uc) U) := h4s.grown hgA4
  have HT4 : Hid (TapeIs W4 (.agg #[.slice ua U.length uc, .int .i64 0]) ⟨U, 0⟩) := ⟨_, rfl, HS4.out⟩
  clear h4 h4s c0 c1 p1w
  go_upto_region 5 with fail
  rw [← HW4.out]
  obtain ⟨d0, d1, _, _⟩ := pair_room (grown_refl W4 none) B4.out
  go_wp2_with fail
  refine (R2.out _ _ hg04 HT4.out).mono ?_
  rintro e w5 ⟨ha, hc, za, zc, rfl, h5, h5s, hg5⟩
  obtain ⟨W5, HW5, hgA5, B5⟩ := alloc_named7 w5 (.cells #[.slice za U.length zc, .int .i64 0] 28)
  have hg45 := grown_trans hg5 hgA5
  have hg35 := grown_trans hg34 hg45
  have HC5 : Hid (CommitsIs W5 (.slice ha j hc) gs) := h5.grown hgA5
  have HS5 : Hid (SliceIs W5 (.slice za U.length zc) U) := h5s.grown hgA5
  clear h5 h5s d0 d1
  go_upto_region 6 with fail
  rw [← HW5.out]
  have hjj : ((j : Int) == (j : Int)) = true := by simp
  have hUk : (U.length : Int) ≤ (k : Int) := by omega
  have HEND : Hid ((l.length : Int) = 0 ∨ ¬ (l.length : Int) = 0 ∧ (cs.length : Int) > 0) := by
    rcases hne with h | h
    · exact .inl (by omega)
    · by_cases h0 : l.length = 0
      · exact .inl (by omega)
      · exact .inr ⟨by omega, by omega⟩
  rcases HEND.out with i0 | ⟨i0, i1⟩
  · go_wp2_with fail
    refine (BG1.out _ _ _ (HC4.out.grown hg45) (HC1.out.grown (grown_trans hg12 hg35))).mono ?_
    rintro e w6 ⟨rfl, hg6⟩
    go_wp2_with fail
    refine (BG2.out _ _ _ (HC5.out.grown hg6) (HC4.out.grown (grown_trans hg45 hg6))).mono ?_
    rintro e w7 ⟨rfl, hg7⟩
    have hg57 := grown_trans hg6 hg7
    obtain ⟨c0, c1, _, _⟩ := pair_room (grown_trans hg35 hg57) B2.out
    obtain ⟨d0, d1, _, _⟩ := pair_room (grown_trans hg45 hg57) B4.out
    obtain ⟨e0, e1, _, _⟩ := pair_room hg57 B5.out
    have SM : Hid (Calls Tryd.prog 16 #[.slice ua U.length uc, .slice za U.length zc] w7 fun e w' => e = .returned (.bool true) ∧ w' = w7) := by
      have := same_any w7 _ _ U U (HS4.out.grown (grown_trans hg45 hg57)) (HS5.out.grown hg57)
      rw [decide_eq_true rfl] at this
      exact this
    go_wp2_with fail
    refine SM.out.mono ?_
    rintro e w8 ⟨rfl, rfl⟩
    go_wp2
    go_ret
    exact ⟨rfl, grown_trans hg02 (grown_trans hg35 hg57)⟩
  · have i2 : 0 < cs.length := by omega
    have i3 : ¬ l = [] := by rintro rfl; simp at i0
    go_wp2_with fail
    refine (BG1.out _ _ _ (HC4.out.grown hg45) (HC1.out.grown (grown_trans hg12 hg35))).mono ?_
    rintro e w6 ⟨rfl, hg6⟩
    go_wp2_with fail
    refine (BG2.out _ _ _ (HC5.out.grown hg6) (HC4.out.grown (grown_trans hg45 hg6))).mono ?_
    rintro e w7 ⟨rfl, hg7⟩
    have hg57 := grown_trans hg6 hg7
    obtain ⟨c0, c1, _, _⟩ := pair_room (grown_trans hg35 hg57) B2.out
    obtain ⟨d0, d1, _, _⟩ := pair_room (grown_trans hg45 hg57) B4.out
    obtain ⟨e0, e1, _, _⟩ := pair_room hg57 B5.out
    have SM : Hid (Calls Tryd.prog 16 #[.slice ua U.length uc, .slice za U.length zc] w7 fun e w' => e = .returned (.bool true) ∧ w' = w7) := by
      have := same_any w7 _ _ U U (HS4.out.grown (grown_trans hg45 hg57)) (HS5.out.grown hg57)
      rw [decide_eq_true rfl] at this
      exact this
    go_wp2_with fail
    refine SM.out.mono ?_
    rintro e w8 ⟨rfl, rfl⟩
    go_wp2
    go_ret
    exact ⟨rfl, grown_trans hg02 (grown_trans hg35 hg57)⟩
end Go.Proofs.YtkheombfjgjedacDoor
