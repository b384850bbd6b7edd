/-
  forest.clonedPairs and forest.cloned, as they landed: tenants in new memory.
-/
import Derived.Test.YtpmfbfflacbmjacCloneP
import Derived.Test.YtpmfbfflacbmjacPart6
import Derived.Test.YtpmfbfflacbmjacPart5
import Derived.Deep.RegionWith
import Derived.Deep.RegionHeld3
import Derived.Handy
namespace Go.Proofs.Ytpmfbfflacbmjac
open Go.RowKit
set_option maxRecDepth 100000 in
set_option maxHeartbeats 2000000 in
theorem clonedPairs_any (w : World) (v : Value) (L : PL) (hv : PairsIs w v L) (hn : L.length ≤ 1000) (hls : ∀ j, j < L.length → (L.getD j ([], [])).1.length ≤ 1000000 ∧ (L.getD j ([], [])).2.length ≤ 1000000) :
    Calls Try.prog 66 #[v] w fun e w' => ∃ v', e = .returned v' ∧ OwnQ w.heap.size 0 w' v' L ∧ w.grownBy w' none := by
  obtain ⟨pa, pcap, rfl⟩ := hv.shape
  have HPI : Hid (PairsIs w (.slice pa L.length pcap) L) := hv
  have HM : Hid (∀ j, j < L.length → (L.getD j ([], [])).1.length ≤ 1000000 ∧ (L.getD j ([], [])).2.length ≤ 1000000) := hls
  clear hv hls
  go_enter Try.func66, Try.ntmps66
  go_wp2_with fail
  go_loopw [3, 8] (fun cv i wr => ∃ k : Nat, k ≤ L.length ∧ i = .int .i64 (k : Int) ∧ OwnQ w.heap.size 0 wr cv (L.take k) ∧ w.grownBy wr none) (fun _ i _ => L.length - (intOf i).toNat)
  case atStart => exact ⟨0, by omega, rfl, ownQ_nil _ _ _, grown_refl _ _⟩
  case round =>
    obtain ⟨k, hk, rfl, hown, hg⟩ := hrel
    obtain ⟨oa, ocap, rfl⟩ := hown.shape
    by_cases hkl : k < L.length
    · have t2 : (k : Int) < (L.length : Int) := by omega
      obtain ⟨pb, po, rfl, hat⟩ := HPI.out.at k hkl
      obtain ⟨vk, vv, c1, c2, s1, s2⟩ := hat.grown hg
      obtain ⟨b1, b2⟩ := HM.out k hkl
      have HT : Hid (L.take (k + 1) = L.take k ++ [L.getD k ([], [])]) := by
        show _ = _
        rw [List.take_succ_eq_append_getElem hkl]; simp [hkl]
      have hdl : (L.take k).length ≤ 1000 := by simp; omega
      generalize L.getD k ([], []) = P at *
      generalize L.take k = X at *
      have CK : Hid (∀ w', wr.grownBy w' none → Calls Try.prog 44 #[vk] w' fun e w'' => ∃ v', e = .returned v' ∧ Own w'.heap.size w'' v' P.1 ∧ w'.grownBy w'' none) := fun w' hg' => clone_any w' vk P.1 (s1.grown hg') (by omega)
      have CV : Hid (∀ w', wr.grownBy w' none → Calls Try.prog 44 #[vv] w' fun e w'' => ∃ v', e = .returned v' ∧ Own w'.heap.size w'' v' P.2 ∧ w'.grownBy w'' none) := fun w' hg' => clone_any w' vv P.2 (s2.grown hg') (by omega)
      obtain ⟨ka, kc, rfl⟩ := s1.shape
      obtain ⟨va, vc, rfl⟩ := s2.shape
      obtain ⟨W1, hW1⟩ : ∃ W1 : World, W1 = wr.alloc (.cells #[.slice ka P.1.length kc, .slice va P.2.length vc] 80) := ⟨_, rfl⟩
      have hgW : wr.grownBy W1 none := by rw [hW1]; exact World.grownBy_alloc _ _ _
      have HW1 : Hid (W1 = wr.alloc (.cells #[.slice ka P.1.length kc, .slice va P.2.length vc] 80)) := hW1
      obtain ⟨d1, d2, _, _⟩ := pair_room (grown_refl W1 none) (by rw [hW1]; exact heap_alloc_new wr _ : W1.heap[wr.heap.size]? = some (.cells #[.slice ka P.1.length kc, .slice va P.2.length vc] 80))
      have hsz0 := hg.size
      have HOW : Hid (OwnQ w.heap.size 0 wr (.slice oa X.length ocap) X) := hown
      clear hat s1 s2 hW1 hown
      go_wp2_with fail
      rw [← HW1.out]
      have e1 : W1.drew.cell? ⟨wr.heap.size, 0, none⟩ = some (.slice ka P.1.length kc) := d1
      have e2 : W1.drew.cell? ⟨wr.heap.size, 1, none⟩ = some (.slice va P.2.length vc) := d2
      have hgd := grown_drew hgW
      go_region_held3 (fun w' => w'.cell? ⟨wr.heap.size, 0, none⟩ = some (.slice ka P.1.length kc) ∧ w'.cell? ⟨wr.heap.size, 1, none⟩ = some (.slice va P.2.length vc))
        (first | exact ⟨e1, e2⟩ | exact ⟨f1, f2⟩ | exact ⟨f3, f4⟩ | exact ⟨(World.grownBy_alloc _ _ none).cell f3 (by simp), (World.grownBy_alloc _ _ none).cell f4 (by simp)⟩ | exact ⟨f5, f6⟩)
        (first
          | (go_at_call_of 44 (Value.slice ka P.1.length kc); refine (CK.out _ hgd).mono ?_; rintro e w2 ⟨v2, rfl, ho2, hg2⟩; obtain ⟨ka2, kc2, rfl⟩ := ho2.shape; have f1 := hg2.cell e1 (by simp); have f2 := hg2.cell e2 (by simp); have hgd2 := grown_trans hgd hg2)
          | (go_at_call_of 44 (Value.slice va P.2.length vc); refine (CV.out _ hgd2).mono ?_; rintro e w3 ⟨v3, rfl, ho3, hg3⟩; obtain ⟨va2, vc2, rfl⟩ := ho3.shape; have f3 := hg3.cell f1 (by simp); have f4 := hg3.cell f2 (by simp); have hgd3 := grown_trans hgd2 hg3)
          | (refine step_append_pairQ (by rfl) _ _ (by rfl) w.heap.size 0 (Nat.zero_le _) (.slice oa X.length ocap) X (by rfl) ((HOW.out.grownNone hgd3).alloc _) (.slice ka2 P.1.length kc2) (.slice va2 P.2.length vc2) P ((ho2.grownNone hg3).alloc _).part (ho3.alloc _).part w3.heap.size (heap_alloc_new w3 _) (by rfl) (by omega) (by have := hgd3.size; simp; omega) ?_
             intro v4 w4 ho4 hg4
             have f5 := hg4.cell ((World.grownBy_alloc _ _ none).cell f3 (by simp)) (fun e => absurd (HOW.out.lt _ e.symm).2 (Nat.lt_irrefl _))
             have f6 := hg4.cell ((World.grownBy_alloc _ _ none).cell f4 (by simp)) (fun e => absurd (HOW.out.lt _ e.symm).2 (Nat.lt_irrefl _))))
      have hgw : w.grownBy w4 none := grown_ownQ (grown_alloc (grown_trans hg hgd3) _) ((HOW.out.grownNone hgd3).alloc _) (Nat.le_refl _) hg4
      have HO4 : Hid (OwnQ w.heap.size 0 w4 v4 (X ++ [P])) := ho4
      clear e1 e2 f1 f2 f3 f4 f5 f6 ho2 ho3 ho4 hg4 hgd3 hgd2 hgd hg3 hg2 hgW hg CK CV d1 d2 c1 c2
      go_wp2_with fail
      go_roundw
      case rel =>
        first
          | exact ⟨k + 1, by omega, by go_num, by rw [HT.out]; exact HO4.out, hgw⟩
          | ((repeat apply Exists.intro); refine ⟨⟨k + 1, by omega, ?_, by rw [HT.out]; exact HO4.out, hgw⟩, rfl⟩; go_num)
      case measure => simp [intOf]; omega
    · obtain rfl : k = L.length := by omega
      rw [List.take_length] at hown
      rw [List.take_length]
      go_wp2
      go_ret
      exact ⟨_, rfl, hown, hg⟩
set_option maxRecDepth 100000 in
set_option maxHeartbeats 2000000 in
theorem cloned_any (w : World) (v : Value) (L : FL) (hv : TensIs w v L) (hF : Forest L) :
    Calls Try.prog 46 #[v] w fun e w' => ∃ v', e = .returned v' ∧ OwnT w.heap.size w' v' L ∧ w.grownBy w' none := by
  obtain ⟨pa, pcap, rfl⟩ := hv.shape
  have HPI : Hid (TensIs w (.slice pa L.length pcap) L) := hv
  have hn := hF.room
  have HM : Hid (∀ j, j < L.length → (L.getD j ([], [])).1.length ≤ 8 ∧ Tree (L.getD j ([], [])).2) := fun j hj => by
    have := hF.tens L[j] (List.getElem_mem hj)
    rw [show L[j] = L.getD j ([], []) by simp [hj]] at this
    exact ⟨this.1.2, this.2.2⟩
  clear hv hF
  go_enter Try.func46, Try.ntmps46
  go_wp2_with fail
  go_loopw [3, 8] (fun cv i wr => ∃ k : Nat, k ≤ L.length ∧ i = .int .i64 (k : Int) ∧ OwnT w.heap.size wr cv (L.take k) ∧ w.grownBy wr none) (fun _ i _ => L.length - (intOf i).toNat)
  case atStart => exact ⟨0, by omega, rfl, ownT_nil _ _, grown_refl _ _⟩
  case round =>
    obtain ⟨k, hk, rfl, hown, hg⟩ := hrel
    obtain ⟨oa, ocap, rfl⟩ := hown.shape
    by_cases hkl : k < L.length
    · have t2 : (k : Int) < (L.length : Int) := by omega
      obtain ⟨pb, po, rfl, hat⟩ := HPI.out.at k hkl
      obtain ⟨vk, vv, c1, c2, s1, s2⟩ := hat.grown hg
      obtain ⟨b1, b2⟩ := HM.out k hkl
      have HT : Hid (L.take (k + 1) = L.take k ++ [L.getD k ([], [])]) := by
        show _ = _
        rw [List.take_succ_eq_append_getElem hkl]; simp [hkl]
      have hdl : (L.take k).length ≤ 8 := by simp; omega
      generalize L.getD k ([], []) = P at *
      generalize L.take k = X at *
      have CK : Hid (∀ w', wr.grownBy w' none → Calls Try.prog 44 #[vk] w' fun e w'' => ∃ v', e = .returned v' ∧ Own w'.heap.size w'' v' P.1 ∧ w'.grownBy w'' none) := fun w' hg' => clone_any w' vk P.1 (s1.grown hg') (by omega)
      have CV : Hid (∀ w', wr.grownBy w' none → Calls Try.prog 66 #[vv] w' fun e w'' => ∃ v', e = .returned v' ∧ OwnQ w'.heap.size 0 w'' v' P.2 ∧ w'.grownBy w'' none) := fun w' hg' => clonedPairs_any w' vv P.2 (s2.grown hg') (by have := b2.room; omega) (fun j hj => by
        have := b2.pairs P.2[j] (List.getElem_mem hj)
        rw [show P.2[j] = P.2.getD j ([], []) by simp [hj]] at this
        omega)
      obtain ⟨ka, kc, rfl⟩ := s1.shape
      obtain ⟨va, vc, rfl⟩ := s2.shape
      obtain ⟨W1, hW1⟩ : ∃ W1 : World, W1 = wr.alloc (.cells #[.slice ka P.1.length kc, .slice va P.2.length vc] 113) := ⟨_, rfl⟩
      have hgW : wr.grownBy W1 none := by rw [hW1]; exact World.grownBy_alloc _ _ _
      have HW1 : Hid (W1 = wr.alloc (.cells #[.slice ka P.1.length kc, .slice va P.2.length vc] 113)) := hW1
      obtain ⟨d1, d2, _, _⟩ := pair_room (grown_refl W1 none) (by rw [hW1]; exact heap_alloc_new wr _ : W1.heap[wr.heap.size]? = some (.cells #[.slice ka P.1.length kc, .slice va P.2.length vc] 113))
      have hsz0 := hg.size
      have HOW : Hid (OwnT w.heap.size wr (.slice oa X.length ocap) X) := hown
      clear hat s1 s2 hW1 hown b2
      go_wp2_with fail
      rw [← HW1.out]
      have e1 : W1.drew.cell? ⟨wr.heap.size, 0, none⟩ = some (.slice ka P.1.length kc) := d1
      have e2 : W1.drew.cell? ⟨wr.heap.size, 1, none⟩ = some (.slice va P.2.length vc) := d2
      have hgd := grown_drew hgW
      go_region_held3 (fun w' => w'.cell? ⟨wr.heap.size, 0, none⟩ = some (.slice ka P.1.length kc) ∧ w'.cell? ⟨wr.heap.size, 1, none⟩ = some (.slice va P.2.length vc))
        (first | exact ⟨e1, e2⟩ | exact ⟨f1, f2⟩ | exact ⟨f3, f4⟩ | exact ⟨(World.grownBy_alloc _ _ none).cell f3 (by simp), (World.grownBy_alloc _ _ none).cell f4 (by simp)⟩ | exact ⟨f5, f6⟩)
        (first
          | (go_at_call 44; refine (CK.out _ hgd).mono ?_; rintro e w2 ⟨v2, rfl, ho2, hg2⟩; obtain ⟨ka2, kc2, rfl⟩ := ho2.shape; have f1 := hg2.cell e1 (by simp); have f2 := hg2.cell e2 (by simp); have hgd2 := grown_trans hgd hg2)
          | (go_at_call 66; refine (CV.out _ hgd2).mono ?_; rintro e w3 ⟨v3, rfl, ho3, hg3⟩; obtain ⟨va2, vc2, rfl⟩ := ho3.shape; have f3 := hg3.cell f1 (by simp); have f4 := hg3.cell f2 (by simp); have hgd3 := grown_trans hgd2 hg3)
          | (refine step_append_ten (by rfl) _ _ (by rfl) w.heap.size (.slice oa X.length ocap) X (by rfl) ((HOW.out.grownNone hgd3).alloc _) (.slice ka2 P.1.length kc2) (.slice va2 P.2.length vc2) P ((ho2.grownNone hg3).alloc _).part ((ho3.alloc _).pairsB.up _) w3.heap.size (heap_alloc_new w3 _) (by rfl) (by omega) (by have := hgd3.size; simp; omega) ?_
             intro v4 w4 ho4 hg4
             have f5 := hg4.cell ((World.grownBy_alloc _ _ none).cell f3 (by simp)) (fun e => absurd (HOW.out.lt _ e.symm).2 (Nat.lt_irrefl _))
             have f6 := hg4.cell ((World.grownBy_alloc _ _ none).cell f4 (by simp)) (fun e => absurd (HOW.out.lt _ e.symm).2 (Nat.lt_irrefl _))))
      have hgw : w.grownBy w4 none := grown_ownT (grown_alloc (grown_trans hg hgd3) _) ((HOW.out.grownNone hgd3).alloc _) (Nat.le_refl _) hg4
      have HO4 : Hid (OwnT w.heap.size w4 v4 (X ++ [P])) := ho4
      clear e1 e2 f1 f2 f3 f4 f5 f6 ho2 ho3 ho4 hg4 hgd3 hgd2 hgd hg3 hg2 hgW hg CK CV d1 d2 c1 c2
      go_wp2_with fail
      go_roundw
      case rel =>
        first
          | exact ⟨k + 1, by omega, by go_num, by rw [HT.out]; exact HO4.out, hgw⟩
          | ((repeat apply Exists.intro); refine ⟨⟨k + 1, by omega, ?_, by rw [HT.out]; exact HO4.out, hgw⟩, rfl⟩; go_num)
      case measure => simp [intOf]; omega
    · obtain rfl : k = L.length := by omega
      rw [List.take_length] at hown
      rw [List.take_length]
      go_wp2
      go_ret
      exact ⟨_, rfl, hown, hg⟩
end Go.Proofs.Ytpmfbfflacbmjac
