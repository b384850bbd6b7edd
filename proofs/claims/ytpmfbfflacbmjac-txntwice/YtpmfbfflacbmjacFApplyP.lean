/-
  forest.Apply, as it landed, keeps P5.4.
-/
import Derived.Test.YtpmfbfflacbmjacPart10
import Derived.Test.YtpmfbfflacbmjacFCloneP
import Derived.Test.YtpmfbfflacbmjacPart7
namespace Go.Proofs.Ytpmfbfflacbmjac
open Go.RowKit
theorem apply_snoc : ∀ (ws : List Plc) (l : FL) (p : Plc), applyE l ws = 0 → applyE l (ws ++ [p]) = stepE (applyL l ws) p ∧ applyL l (ws ++ [p]) = writtenL (applyL l ws) p
  | [], l, p, _ => by
    refine ⟨?_, rfl⟩
    show applyE l [p] = stepE l p
    rw [applyE, stepE]
    by_cases hw : writeE p = 0
    · rw [if_pos hw, if_pos hw]
      by_cases he : writtenE l p = 0
      · rw [if_pos he, he]; rfl
      · rw [if_neg he]
    · rw [if_neg hw, if_neg hw]
  | q :: ws, l, p, h => by
    rw [applyE] at h
    by_cases hw : writeE q = 0
    · rw [if_pos hw] at h
      by_cases he : writtenE l q = 0
      · rw [if_pos he] at h
        obtain ⟨h1, h2⟩ := apply_snoc ws (writtenL l q) p h
        rw [List.cons_append, applyE, if_pos hw, if_pos he]
        exact ⟨h1, h2⟩
      · rw [if_neg he] at h; exact absurd h he
    · rw [if_neg hw] at h; exact absurd h hw
theorem apply_stop : ∀ (ws rest : List Plc) (l : FL), applyE l ws ≠ 0 → applyE l (ws ++ rest) = applyE l ws
  | [], _, _, h => absurd rfl h
  | q :: ws, rest, l, h => by
    rw [applyE] at h
    rw [List.cons_append, applyE, applyE]
    by_cases hw : writeE q = 0
    · rw [if_pos hw] at h ⊢
      rw [if_pos hw]
      by_cases he : writtenE l q = 0
      · rw [if_pos he] at h ⊢
        rw [if_pos he]
        exact apply_stop ws rest _ h
      · rw [if_neg he, if_neg he]
    · rw [if_neg hw, if_neg hw]
theorem apply_forestF : ∀ (ws : List Plc) (l : FL), Forest l → applyE l ws = 0 → Forest (applyL l ws)
  | [], l, h, _ => h
  | w :: ws, l, h, he => by
    rw [applyE] at he
    by_cases hw : writeE w = 0
    · rw [if_pos hw] at he
      by_cases h2 : writtenE l w = 0
      · rw [if_pos h2] at he
        exact apply_forestF ws _ (written_forest h hw h2) he
      · rw [if_neg h2] at he; exact absurd he h2
    · rw [if_neg hw] at he; exact absurd he hw
set_option maxRecDepth 100000 in
set_option maxHeartbeats 2000000 in
theorem fapply_new : FApplyNewOK := by
  intro w v u l ws hv hu hl hw
  have CH : Hid (Calls Try.prog 45 #[v] w fun e w' => e = .returned (.int .i64 (forestE l)) ∧ w.grownBy w' none) := fcheck_ok w v l hv hl
  by_cases hz : forestE l = 0
  · have hF := (forest_iff l).1 hz
    rw [hz] at CH
    by_cases h10 : 10 < ws.length
    · have e1 : appliedE l ws = 1 := by rw [appliedE, if_pos hz, if_pos h10]
      have e2 : appliedF l ws = [] := by rw [appliedF, e1]; rfl
      rw [e1, e2]
      obtain ⟨a, cap, rfl⟩ := hv.shape
      obtain ⟨ua, uc, rfl⟩ := hu.shape
      have t1 : (ws.length : Int) > 10 := by omega
      clear hv hu hl hw hF hz e1 e2
      go_enter Try.func21, Try.ntmps21
      go_wp2_with fail
      refine CH.out.mono ?_
      rintro e w1 ⟨rfl, hg1⟩
      go_wp2
      go_ret2
      exact ⟨_, rfl, ownT_nil _ _, hg1⟩
    · have e1 : appliedE l ws = applyE l ws := by rw [appliedE, if_pos hz, if_neg h10]
      have e2 : appliedF l ws = if applyE l ws = 0 then applyL l ws else [] := by rw [appliedF, e1]
      obtain ⟨E, hEE⟩ : ∃ E, E = applyE l ws := ⟨_, rfl⟩
      obtain ⟨R, hRR⟩ : ∃ R, R = (if applyE l ws = 0 then applyL l ws else []) := ⟨_, rfl⟩
      rw [e1, e2, ← hRR, ← hEE]
      have HEE : Hid (E = applyE l ws) := hEE
      have HRR : Hid (R = (if applyE l ws = 0 then applyL l ws else [])) := hRR
      clear hEE hRR
      have CL : Hid (∀ w', w.grownBy w' none → Calls Try.prog 46 #[v] w' fun e w'' => ∃ v', e = .returned v' ∧ OwnT w'.heap.size w'' v' l ∧ w'.grownBy w'' none) := fun w' hg => cloned_any w' v l (hv.grown hg) hF
      obtain ⟨a, cap, rfl⟩ := hv.shape
      obtain ⟨ua, uc, rfl⟩ := hu.shape
      have HU : Hid (WritesIs w (.slice ua ws.length uc) ws) := hu
      have HWF : Hid (FitsW ws) := hw
      have HF : Hid (Forest l) := hF
      have t1 : ¬ (ws.length : Int) > 10 := by omega
      clear hv hu hl hw hF hz e1 e2
      go_enter Try.func21, Try.ntmps21
      go_wp2_with fail
      refine CH.out.mono ?_
      rintro e w1 ⟨rfl, hg1⟩
      go_wp2_with fail
      refine (CL.out _ hg1).mono ?_
      rintro e w2 ⟨v2, rfl, ho2, hg2⟩
      have hg12 := grown_trans hg1 hg2
      have hsz1 := hg1.size
      have HO2 : Hid (OwnT w1.heap.size w2 v2 l) := ho2
      obtain ⟨a2, c2, rfl⟩ := ho2.shape
      clear ho2
      go_wp2_with fail
      go_loopw [7, 23] (fun cv i wr => ∃ m : Nat, m ≤ ws.length ∧ i = .int .i64 (m : Int) ∧ applyE l (ws.take m) = 0 ∧ OwnT w1.heap.size wr cv (applyL l (ws.take m)) ∧ w1.grownBy wr none) (fun _ i _ => ws.length - (intOf i).toNat)
      case atStart => exact ⟨0, by omega, rfl, rfl, HO2.out, hg2⟩
      case round =>
        obtain ⟨m, hm, rfl, hE, hown, hg⟩ := hrel
        obtain ⟨oa, oc, rfl⟩ := hown.shape
        have hgr := grown_trans hg1 hg
        by_cases hlt : m < ws.length
        · have t2 : (m : Int) < (ws.length : Int) := by omega
          obtain ⟨b, o, rfl, hat⟩ := HU.out.at m hlt
          obtain ⟨vn, vk, vv, c1, c2', c3, c4, s1, s2, s3⟩ := hat.grown hgr
          have hfit := HWF.out.each m hlt
          obtain ⟨q1, q2⟩ := apply_snoc (ws.take m) l (ws.getD m noPlc) hE
          have htk : ws.take (m + 1) = ws.take m ++ [ws.getD m noPlc] := by rw [List.take_succ_eq_append_getElem hlt]; simp [hlt]
          have HST : Hid (stepE (applyL l (ws.take m)) (ws.getD m noPlc) ≠ 0 → applyE l ws = stepE (applyL l (ws.take m)) (ws.getD m noPlc)) := fun hne => by
            have := apply_stop (ws.take (m + 1)) (ws.drop (m + 1)) l (by rw [htk, q1]; exact hne)
            rw [List.take_append_drop, htk, q1] at this
            exact this
          rw [← htk] at q1 q2
          have hFm := apply_forestF _ _ HF.out hE
          have HQ1 : Hid (applyE l (ws.take (m + 1)) = stepE (applyL l (ws.take m)) (ws.getD m noPlc)) := q1
          have HQ2 : Hid (applyL l (ws.take (m + 1)) = writtenL (applyL l (ws.take m)) (ws.getD m noPlc)) := q2
          generalize ws.getD m noPlc = P at *
          generalize applyL l (ws.take m) = X at *
          obtain ⟨na, nc, rfl⟩ := s1.shape
          obtain ⟨ka, kc, rfl⟩ := s2.shape
          obtain ⟨va, vc, rfl⟩ := s3.shape
          obtain ⟨W, hW⟩ : ∃ W : World, W = wr.alloc (.cells #[.slice na P.name.length nc, .slice ka P.key.length kc, .bool P.gone, .slice va P.value.length vc] 53) := ⟨_, rfl⟩
          have HW : Hid (W = wr.alloc (.cells #[.slice na P.name.length nc, .slice ka P.key.length kc, .bool P.gone, .slice va P.value.length vc] 53)) := hW
          have hgW : wr.grownBy W none := by rw [hW]; exact World.grownBy_alloc _ _ _
          have BK : Hid (W.heap[wr.heap.size]? = some (.cells #[.slice na P.name.length nc, .slice ka P.key.length kc, .bool P.gone, .slice va P.value.length vc] 53)) := by rw [hW]; exact heap_alloc_new wr _
          obtain ⟨⟨d0, d1, d2, d3⟩, _⟩ := quad_room (grown_refl W none) BK.out
          have hszw := (grown_trans hg hgW).size
          have WR : Hid (Calls Try.prog 47 #[.slice oa X.length oc, .agg #[.slice na P.name.length nc, .slice ka P.key.length kc, .bool P.gone, .slice va P.value.length vc]] W fun e w' => ∃ x, e = .returned (.tuple #[x, .int .i64 (stepE X P)]) ∧ (stepE X P = 0 → OwnT w1.heap.size w' x (writtenL X P)) ∧ (∃ a n c, x = .slice a n c) ∧ W.grownBy w' (Value.ownBlock (.slice oa X.length oc))) := fwritten_any w1.heap.size W _ _ X P (hown.grownNone hgW) hFm ⟨_, _, _, rfl, s1.grown hgW, s2.grown hgW, s3.grown hgW⟩ hfit hszw
          have HGW : Hid (∀ w', W.grownBy w' (Value.ownBlock (.slice oa X.length oc)) → w1.grownBy w' none) := fun w' h => grown_ownT (grown_trans hg hgW) (hown.grownNone hgW) (Nat.le_refl _) h
          clear hat s1 s2 s3 hW q1 q2 htk hown hFm hE
          go_wp2_with fail
          rw [← HW.out]
          go_wp2_with fail
          refine WR.out.mono ?_
          rintro e w3 ⟨x, rfl, hx, ⟨xa, xn, xc, rfl⟩, hg3⟩
          have hgw := HGW.out _ hg3
          by_cases hs : stepE X P = 0
          · have HX : Hid (OwnT w1.heap.size w3 (.slice xa xn xc) (writtenL X P)) := hx hs
            have HQE : Hid (applyE l (ws.take (m + 1)) = 0) := by show _ = _; rw [HQ1.out]; exact hs
            rw [hs]
            clear hx hs WR HST HQ1
            go_wp2_with fail
            go_roundw
            case rel =>
              first
                | exact ⟨m + 1, by omega, by go_num, HQE.out, by rw [HQ2.out]; exact HX.out, hgw⟩
                | ((repeat apply Exists.intro); refine ⟨⟨m + 1, by omega, ?_, HQE.out, by rw [HQ2.out]; exact HX.out, hgw⟩, rfl⟩; go_num)
            case measure => simp [intOf]; omega
          · have HZ : Hid (applyE l ws = stepE X P) := HST.out hs
            have HNZ : Hid (stepE X P ≠ 0) := hs
            generalize stepE X P = z at *
            have hz' : (z != 0) = true := by simpa using hs
            clear hx hs WR HST HQ1
            go_wp2
            go_ret2
            rw [HEE.out, HRR.out, HZ.out, if_neg HNZ.out]
            exact ⟨_, rfl, ownT_nil _ _, grown_trans hg1 hgw⟩
        · obtain rfl : m = ws.length := by omega
          rw [List.take_length] at hown hE ⊢
          have HE : Hid (applyE l ws = 0) := hE
          have HOW : Hid (OwnT w1.heap.size wr (.slice oa (applyL l ws).length oc) (applyL l ws)) := hown
          clear hE hown
          go_wp2
          go_ret2
          rw [HEE.out, HRR.out, HE.out, if_pos rfl]
          exact ⟨_, rfl, HOW.out.down _ hsz1, hgr⟩
  · have e1 : appliedE l ws = forestE l := by rw [appliedE, if_neg hz]
    have e2 : appliedF l ws = [] := by rw [appliedF, e1, if_neg hz]
    rw [e1, e2]
    obtain ⟨a, cap, rfl⟩ := hv.shape
    obtain ⟨ua, uc, rfl⟩ := hu.shape
    generalize forestE l = z at *
    have hz' : (z != 0) = true := by simpa using hz
    clear hv hu hl hw e1 e2
    go_enter Try.func21, Try.ntmps21
    go_wp2_with fail
    refine CH.out.mono ?_
    rintro e w1 ⟨rfl, hg1⟩
    go_wp2
    go_ret2
    exact ⟨_, rfl, ownT_nil _ _, hg1⟩
theorem fapply_ok : FApplyOK := fapply_new.ok
end Go.Proofs.Ytpmfbfflacbmjac
