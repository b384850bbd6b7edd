/-
  The walk of canopykeep.TapeBack, over what the code must keep.
-/
import Derived.Test.YtkheombfjgjedabDoorLTKr
import Derived.Test.YtkheombfjgjedabDoorKBegins
namespace Go.Proofs.YtkheombfjgjedabDoor
open Go.RowKit
set_option maxRecDepth 100000 in
set_option maxHeartbeats 1000000 in
theorem tapeBack_walk (hF : FApplyNewOK) (hA : TpAppOK) (hR : TpRecOK) (w : World) (v : Value) (l : List Plc) (hv : PlacesIs w v l) (hl : FitsQ l) (ht : Tabs w) :
    Calls Tryd.prog 4 #[v] w fun e w' => e = .returned (.bool true) ∧ w.grownBy w' none := by
  obtain ⟨a, cap, rfl⟩ := hv.shape
  have KC : Hid (Calls Tryd.prog 10 #[.slice a l.length cap, .int .i64 16] w fun e w' => ∃ v', e = .returned v' ∧ ∃ cs, CommitsIs w' v' cs ∧ (∃ f, CmtsOf ((l.take 16).map writeF) ((l.take 16).map writeF).length cs f) ∧ w.grownBy w' none) := kcommits_any hF w _ l 16 hv hl (by omega)
  have HA : Hid TpAppOK := hA
  have HR : Hid TpRecOK := hR
  have HT : Hid (Tabs w) := ht
  have hll : l.length ≤ 140737488355328 := by have := hl.1; omega
  clear hv hl hF hA hR ht
  go_enter Tryd.func4, Tryd.ntmps4
  go_wp2_with fail
  refine KC.out.mono ?_
  rintro e w1 ⟨v1, rfl, cs, h1, hco, hg1⟩
  obtain ⟨hi, hcl, hne, hfl, hws⟩ := cmts_facts (by omega) hco
  obtain ⟨ca, cc, rfl⟩ := h1.shape
  have HC1 : Hid (CommitsIs w1 (.slice ca cs.length cc) cs) := h1
  have TD : Hid (Calls Tryd.prog 11 #[.slice ca cs.length cc] w1 fun e w' => ∃ xa xc, e = .returned (.tuple #[.agg #[.slice xa (flatT fourF cs).length xc, .int .i64 0], .bool true]) ∧ SliceIs w' (.slice xa (flatT fourF cs).length xc) (flatT fourF cs) ∧ w1.grownBy w' none) := taped_call HA.out w1 _ cs h1 hi (by omega) (HT.out.grownNone hg1)
  obtain ⟨q1, q2, q3⟩ := rec_whole fourF_len hi 0 (by omega) (by omega)
  have RC : Hid (∀ w' x, w.grownBy w' none → TapeIs w' x ⟨flatT fourF cs, 0⟩ → Calls Tryd.prog 6 #[x] w' fun e w'' => ∃ va vc xa xc, e = .returned (.tuple #[.slice va cs.length vc, .agg #[.slice xa (flatT fourF cs).length xc, .int .i64 0], .int .i64 0]) ∧ CommitsIs w'' (.slice va cs.length vc) cs ∧ SliceIs w'' (.slice xa (flatT fourF cs).length xc) (flatT fourF cs) ∧ w'.grownBy w'' none) := fun w' x hg hx => rec_call HR.out w' x _ ⟨flatT fourF cs, 0⟩ cs hx (by show (flatT fourF cs).length ≤ _; omega) (by show (0 : Int) ≤ 0 ∧ (0 : Int) ≤ 200000; omega) (HT.out.grownNone hg) q1 q2 q3
  have BG : Hid (∀ w' x y, CommitsIs w' x cs → CommitsIs w' y cs → Calls Tryd.prog 12 #[x, y] w' fun e w'' => e = .returned (.bool true) ∧ w'.grownBy w'' none) := fun w' x y h1 h2 => begins_same w' x y cs cs h1 h2 (Nat.le_refl _) (by omega) (fun _ _ => rfl) hws
  generalize flatT fourF cs = D at *
  have hcc : ((cs.length : Int) == (cs.length : Int)) = true := by simp
  clear q1 q2 q3 h1 hco hws hi HA HR
  go_wp2_with fail
  refine TD.out.mono ?_
  rintro e w2 ⟨ta, tc, rfl, h2, hg2⟩
  obtain ⟨W2, HW2, hgA2, B2⟩ := alloc_named7 w2 (.cells #[.slice ta D.length tc, .int .i64 0] 24)
  have HT2 : Hid (TapeIs W2 (.agg #[.slice ta D.length tc, .int .i64 0]) ⟨D, 0⟩) := ⟨_, rfl, h2.grown hgA2⟩
  have HS2 : Hid (SliceIs W2 (.slice ta D.length tc) D) := h2.grown hgA2
  have hg12 := grown_trans hg2 hgA2
  have hg02 := grown_trans hg1 hg12
  clear h2
  go_upto_region 3 with fail
  rw [← HW2.out]
  obtain ⟨c0, c1, _, _⟩ := pair_room (grown_refl W2 none) B2.out
  go_wp2_with fail
  refine (RC.out _ _ hg02 HT2.out).mono ?_
  rintro e w3 ⟨va, vc, xa, xc, rfl, h3, h3s, hg3⟩
  obtain ⟨W3, HW3, hgA3, B3⟩ := alloc_named7 w3 (.cells #[.slice xa D.length xc, .int .i64 0] 24)
  have hg23 := grown_trans hg3 hgA3
  have hg13 := grown_trans hg12 hg23
  have HC3 : Hid (CommitsIs W3 (.slice va cs.length vc) cs) := h3.grown hgA3
  have HS3 : Hid (SliceIs W3 (.slice xa D.length xc) D) := h3s.grown hgA3
  clear h3 h3s c0 c1
  go_upto_region 4 with fail
  rw [← HW3.out]
  rcases hne with h0 | h0
  · have i0 : (l.length : Int) = 0 := by omega
    go_wp2_with fail
    refine (BG.out _ _ _ HC3.out (HC1.out.grown hg13)).mono ?_
    rintro e w4 ⟨rfl, hg4⟩
    obtain ⟨c0, c1, _, _⟩ := pair_room (grown_trans hg23 hg4) B2.out
    obtain ⟨d0, d1, _, _⟩ := pair_room hg4 B3.out
    have SM : Hid (Calls Tryd.prog 13 #[.slice xa D.length xc, .slice ta D.length tc] w4 fun e w' => e = .returned (.bool true) ∧ w' = w4) := by
      have := same_any w4 _ _ D D (HS3.out.grown hg4) (HS2.out.grown (grown_trans hg23 hg4))
      rw [decide_eq_true rfl] at this
      exact this
    go_wp2_with fail
    refine SM.out.mono ?_
    rintro e w5 ⟨rfl, rfl⟩
    go_wp2
    go_ret
    exact ⟨rfl, grown_trans hg1 (grown_trans hg13 hg4)⟩
  · by_cases hl0 : l.length = 0
    · have i0 : (l.length : Int) = 0 := by omega
      go_wp2_with fail
      refine (BG.out _ _ _ HC3.out (HC1.out.grown hg13)).mono ?_
      rintro e w4 ⟨rfl, hg4⟩
      obtain ⟨c0, c1, _, _⟩ := pair_room (grown_trans hg23 hg4) B2.out
      obtain ⟨d0, d1, _, _⟩ := pair_room hg4 B3.out
      have SM : Hid (Calls Tryd.prog 13 #[.slice xa D.length xc, .slice ta D.length tc] w4 fun e w' => e = .returned (.bool true) ∧ w' = w4) := by
        have := same_any w4 _ _ D D (HS3.out.grown hg4) (HS2.out.grown (grown_trans hg23 hg4))
        rw [decide_eq_true rfl] at this
        exact this
      go_wp2_with fail
      refine SM.out.mono ?_
      rintro e w5 ⟨rfl, rfl⟩
      go_wp2
      go_ret
      exact ⟨rfl, grown_trans hg1 (grown_trans hg13 hg4)⟩
    · have i0 : ¬ (l.length : Int) = 0 := by omega
      have i1 : (cs.length : Int) > 0 := by omega
      go_wp2_with fail
      refine (BG.out _ _ _ HC3.out (HC1.out.grown hg13)).mono ?_
      rintro e w4 ⟨rfl, hg4⟩
      obtain ⟨c0, c1, _, _⟩ := pair_room (grown_trans hg23 hg4) B2.out
      obtain ⟨d0, d1, _, _⟩ := pair_room hg4 B3.out
      have SM : Hid (Calls Tryd.prog 13 #[.slice xa D.length xc, .slice ta D.length tc] w4 fun e w' => e = .returned (.bool true) ∧ w' = w4) := by
        have := same_any w4 _ _ D D (HS3.out.grown hg4) (HS2.out.grown (grown_trans hg23 hg4))
        rw [decide_eq_true rfl] at this
        exact this
      go_wp2_with fail
      refine SM.out.mono ?_
      rintro e w5 ⟨rfl, rfl⟩
      go_wp2
      go_ret
      exact ⟨rfl, grown_trans hg1 (grown_trans hg13 hg4)⟩
end Go.Proofs.YtkheombfjgjedabDoor
