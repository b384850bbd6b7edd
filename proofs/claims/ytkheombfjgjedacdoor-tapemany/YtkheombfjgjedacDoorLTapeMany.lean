/-
  The walk of canopykeep.TapeMany, over what the code must keep.
-/
import Derived.Test.YtkheombfjgjedacDoorLTKr
import Derived.Test.YtkheombfjgjedacDoorPart4
namespace Go.Proofs.YtkheombfjgjedacDoor
open Go.RowKit
set_option maxRecDepth 100000 in
set_option maxHeartbeats 1000000 in
theorem tapeMany_walk (hF : FApplyNewOK) (hA : TpAppOK) (hE : TpEncOK) (hS : TpSyncOK) (w : World) (v : Value) (l : List Plc) (hv : PlacesIs w v l) (hl : FitsQ l) (ht : Tabs w) :
    Calls Tryd.prog 7 #[v] w fun e w' => e = .returned (.bool true) ∧ w.grownBy w' none := by
  obtain ⟨a, cap, rfl⟩ := hv.shape
  have KC : Hid (Calls Tryd.prog 8 #[.slice a l.length cap, .int .i64 16] w fun e w' => ∃ v', e = .returned v' ∧ ∃ cs, CommitsIs w' v' cs ∧ (∃ f, CmtsOf ((l.take 16).map writeF) ((l.take 16).map writeF).length cs f) ∧ w.grownBy w' none) := kcommits_any hF w _ l 16 hv hl (by omega)
  have HA : Hid TpAppOK := hA
  have HE : Hid TpEncOK := hE
  have HT : Hid (Tabs w) := ht
  have SY : Hid (∀ w', Calls Tryd.prog 11 #[.agg #[.slice none 0 0, .int .i64 1]] w' fun e w'' => ∃ xa xn xc xs, e = .returned (.tuple #[.agg #[.slice xa xn xc, .int .i64 xs], .int .i64 6]) ∧ w'.grownBy w'' none) := fun w' => by
    have hm : mayT ⟨[], 1⟩ = false := by decide
    have h := hS w' _ ⟨[], 1⟩ ⟨_, rfl, sliceIs_nil w'⟩ ⟨by simp, by show -9223372036854775808 ≤ (1 : Int) ∧ (1 : Int) ≤ 9223372036854775807; omega⟩
    rw [show syncE ⟨[], 1⟩ = 6 by rw [syncE, hm]; rfl] at h
    refine h.mono ?_
    rintro e w'' ⟨x, rfl, ⟨vd, rfl, h2⟩, hg⟩
    obtain ⟨xa, xc, rfl⟩ := h2.shape
    exact ⟨xa, _, xc, _, rfl, hg⟩
  clear hv hl hF hA hE hS ht
  go_enter Tryd.func7, Tryd.ntmps7
  go_wp2_with fail
  refine KC.out.mono ?_
  rintro e w1 ⟨v1, rfl, cs, h1, hco, hg1⟩
  obtain ⟨hi, hcl, hne, hfl, hws⟩ := cmts_facts (by omega) hco
  obtain ⟨ca, cc, rfl⟩ := h1.shape
  have HC1 : Hid (CommitsIs w1 (.slice ca cs.length cc) cs) := h1
  have TD : Hid (Calls Tryd.prog 10 #[.slice ca cs.length cc] w1 fun e w' => ∃ xa xc, e = .returned (.tuple #[.agg #[.slice xa (flatT fourF cs).length xc, .int .i64 0], .bool true]) ∧ SliceIs w' (.slice xa (flatT fourF cs).length xc) (flatT fourF cs) ∧ w1.grownBy w' none) := taped_call HA.out w1 _ cs h1 hi (by omega) (HT.out.grownNone hg1)
  have EN : Hid (∀ m, m < cs.length → ∀ w' vs, WritesIs w' vs (cs.getD m noCmt).writes → Calls Tryd.prog 19 #[.agg #[.int .i64 (cs.getD m noCmt).turn, vs]] w' fun e w'' => ∃ xa xc, e = .returned (.tuple #[.slice xa (commitB (cs.getD m noCmt)).length xc, .int .i64 0]) ∧ w'.grownBy w'' none) := fun m hm w' vs h => by
    have hc := (hi.at m hm).2
    have h := HE.out w' _ (cs.getD m noCmt) ⟨_, rfl, h⟩ (commit_fits hc)
    rw [hc, show encF (cs.getD m noCmt) = commitB (cs.getD m noCmt) by rw [encF, if_pos hc]] at h
    refine h.mono ?_
    rintro e w'' ⟨x, rfl, h2, hg⟩
    obtain ⟨xa, xc, rfl⟩ := h2.shape
    exact ⟨xa, xc, rfl, hg⟩
  have HSZ : Hid (∀ m, m < cs.length → (flatT fourF (cs.take (m + 1))).length = (flatT fourF (cs.take m)).length + (6 + (commitB (cs.getD m noCmt)).length) ∧ (flatT fourF (cs.take (m + 1))).length ≤ 100000) := fun m hm => by
    have h1 := flatT_grows fourF cs m hm
    have h2 := frame_len fourF_len (cs.getD m noCmt)
    have h3 := flatT_size fourF_len (hi.take (m + 1))
    have h4 : (cs.take (m + 1)).length ≤ 50 := by simp; omega
    omega
  have HDD : Hid (flatT fourF (cs.take cs.length) = flatT fourF cs) := by show _ = _; rw [List.take_length]
  generalize flatT fourF cs = D at *
  clear h1 hco hws hi HA HE hne
  go_wp2_with fail
  refine TD.out.mono ?_
  rintro e w2 ⟨ta, tc, rfl, h2, hg2⟩
  obtain ⟨W2, HW2, hgA2, B2⟩ := alloc_named7 w2 (.cells #[.slice ta D.length tc, .int .i64 0] 28)
  have hg12 := grown_trans hg2 hgA2
  have hg02 := grown_trans hg1 hg12
  clear h2
  go_upto_region 3 with fail
  rw [← HW2.out]
  go_wp2_with fail
  go_loopw [6, 7] (fun nv iv wr => ∃ m : Nat, m ≤ cs.length ∧ iv = .int .i64 (m : Int) ∧ nv = .int .i64 ((flatT fourF (cs.take m)).length : Int) ∧ W2.grownBy wr none) (fun _ iv _ => cs.length - (intOf iv).toNat)
  case atStart => exact ⟨0, by omega, rfl, rfl, grown_refl _ _⟩
  case round =>
    obtain ⟨m, hm, rfl, rfl, hg⟩ := hrel
    by_cases hlt : m < cs.length
    · have i1 : (m : Int) < (cs.length : Int) := by omega
      obtain ⟨b, o, rfl, hat⟩ := HC1.out.at m hlt
      obtain ⟨vs, x1, x2, s1⟩ := (hat.grown hg12).grown hg
      have EN1 := EN.out m hlt wr vs s1
      obtain ⟨q1, q2⟩ := HSZ.out m hlt
      obtain ⟨va, vc, rfl⟩ := s1.shape
      have HEN : Hid (Calls Tryd.prog 19 #[.agg #[.int .i64 (cs.getD m noCmt).turn, .slice va (cs.getD m noCmt).writes.length vc]] wr fun e w'' => ∃ xa xc, e = .returned (.tuple #[.slice xa (commitB (cs.getD m noCmt)).length xc, .int .i64 0]) ∧ wr.grownBy w'' none) := EN1
      have HQ1 : Hid (((flatT fourF (cs.take (m + 1))).length : Int) = ((flatT fourF (cs.take m)).length : Int) + (6 + ((commitB (cs.getD m noCmt)).length : Int))) := by show _ = _; omega
      have q3 : (flatT fourF (cs.take m)).length + (6 + (commitB (cs.getD m noCmt)).length) ≤ 100000 := by omega
      generalize (cs.getD m noCmt).turn = T at *
      generalize (cs.getD m noCmt).writes.length = vn at *
      generalize (commitB (cs.getD m noCmt)).length = bl at *
      generalize (flatT fourF (cs.take m)).length = fl at *
      clear hat s1 EN1 q1 q2
      go_wp2_with fail
      refine HEN.out.mono ?_
      rintro e w3 ⟨xa, xc, rfl, hg3⟩
      go_wp2_with fail
      go_roundw
      case rel => exact ⟨m + 1, by omega, by go_num, by rw [HQ1.out], grown_trans hg hg3⟩
      case measure => simp [intOf]; omega
    · have i1 : ¬ (m : Int) < (cs.length : Int) := by omega
      obtain rfl : m = cs.length := by omega
      have HS1 := SY.out wr
      rw [HDD.out]
      have hDD : ((D.length : Int) == (D.length : Int)) = true := by simp
      go_wp2_with fail
      refine HS1.mono ?_
      rintro e w3 ⟨xa, xn, xc, xs, rfl, hg3⟩
      obtain ⟨W3, HW3, hgA3, B3⟩ := alloc_named7 w3 (.cells #[.slice xa xn xc, .int .i64 xs] 28)
      have hg23 := grown_trans hg (grown_trans hg3 hgA3)
      go_upto_region 12 with fail
      rw [← HW3.out]
      obtain ⟨c0, c1, _, _⟩ := pair_room hg23 B2.out
      go_wp2
      go_ret
      exact ⟨rfl, grown_trans hg02 hg23⟩
end Go.Proofs.YtkheombfjgjedacDoor
