/-
  The walk of tree.joined: pieces of pairs, put together in new memory.
-/
import Derived.Test.YtpmfbfflacbmjacCloneP
import Derived.Test.YtpmfbfflacbmjacPairMem
import Derived.Test.YtpmfbfflacbmjacPart5
import Derived.Deep.RegionWith
import Derived.Handy
namespace Go.Proofs.Ytpmfbfflacbmjac
open Go.RowKit
/-- Pieces of pairs, as they are handed over. -/
def PiecesIs (w : World) (v : Value) (ls : List PL) : Prop :=
  ∃ b cap, v = .slice (some ⟨b, 0, none⟩) ls.length cap ∧ ∀ i, i < ls.length → ∃ vi, w.cell? ⟨b, i, none⟩ = some vi ∧ PairsIs w vi (ls.getD i [])
theorem flatten_take (ls : List PL) (i : Nat) (h : i < ls.length) : (ls.take (i + 1)).flatten = (ls.take i).flatten ++ ls.getD i [] := by
  rw [List.take_succ_eq_append_getElem h, List.flatten_append]
  simp [h]
theorem flatten_le (ls : List PL) (i : Nat) (h : i < ls.length) : (ls.take i).flatten.length + (ls.getD i []).length ≤ ls.flatten.length := by
  have e : ls.flatten = (ls.take (i + 1)).flatten ++ (ls.drop (i + 1)).flatten := by rw [← List.flatten_append, List.take_append_drop]
  rw [e, flatten_take ls i h]
  simp
theorem flatten_mem (ls : List PL) (i j : Nat) (h : i < ls.length) (hj : j < (ls.getD i []).length) : (ls.getD i []).getD j ([], []) ∈ ls.flatten := by
  rw [List.mem_flatten]
  refine ⟨ls.getD i [], ?_, ?_⟩
  · rw [show ls.getD i [] = ls[i] by simp [h]]; exact List.getElem_mem h
  · generalize ls.getD i [] = m at *
    rw [show m.getD j ([], []) = m[j] by simp [hj]]; exact List.getElem_mem hj
set_option maxRecDepth 100000 in
set_option maxHeartbeats 2000000 in
theorem joined_any (w : World) (v : Value) (ls : List PL) (hv : PiecesIs w v ls) (hn : ls.flatten.length ≤ 1000) (hl : ls.length ≤ 1000) (hls : ∀ q ∈ ls.flatten, q.1.length ≤ 1000000 ∧ q.2.length ≤ 1000000) :
    Calls Try.prog 61 #[v] w fun e w' => ∃ v', e = .returned v' ∧ OwnQ w.heap.size 0 w' v' ls.flatten ∧ w.grownBy w' none := by
  obtain ⟨b, cap, rfl, hcells⟩ := hv
  go_enter Try.func61, Try.ntmps61
  go_wp2_with fail
  go_loopw [3, 10] (fun cv i wr => ∃ m : Nat, m ≤ ls.length ∧ i = .int .i64 (m : Int) ∧ OwnQ w.heap.size 0 wr cv (ls.take m).flatten ∧ w.grownBy wr none) (fun _ i _ => ls.length - (intOf i).toNat)
  case atStart => exact ⟨0, by omega, rfl, ownQ_nil _ _ _, grown_refl _ _⟩
  case round =>
    obtain ⟨m, hm, rfl, hown, hg⟩ := hrel
    obtain ⟨ca, ccap, rfl⟩ := hown.shape
    by_cases hlt : m < ls.length
    · have t1 : (m : Int) < (ls.length : Int) := by omega
      obtain ⟨vi, ci, hpi⟩ := hcells m hlt
      have HF : Hid ((ls.take (m + 1)).flatten = (ls.take m).flatten ++ ls.getD m []) := flatten_take ls m hlt
      have hle := flatten_le ls m hlt
      have HM : Hid (∀ j, j < (ls.getD m []).length → ((ls.getD m []).getD j ([], [])).1.length ≤ 1000000 ∧ ((ls.getD m []).getD j ([], [])).2.length ≤ 1000000) := fun j hj => hls _ (flatten_mem ls m j hlt hj)
      have ci2 := hg.cell ci (by simp)
      generalize ls.getD m [] = L at *
      obtain ⟨pa, pcap, rfl⟩ := hpi.shape
      have HPI : Hid (PairsIs w (.slice pa L.length pcap) L) := hpi
      have HOWN : Hid (OwnQ w.heap.size 0 wr (.slice ca (ls.take m).flatten.length ccap) (ls.take m).flatten) := hown
      generalize (ls.take m).flatten = D at *
      clear ci hpi hcells hls hown
      go_wp2_with fail
      go_loopw [3, 16] (fun cv i wr => ∃ k : Nat, k ≤ L.length ∧ i = .int .i64 (k : Int) ∧ OwnQ w.heap.size 0 wr cv (D ++ L.take k) ∧ w.grownBy wr none) (fun _ i _ => L.length - (intOf i).toNat)
      case atStart => exact ⟨0, by omega, rfl, by rw [List.take_zero, List.append_nil]; exact HOWN.out, hg⟩
      case round =>
        clear hg HOWN ci2
        obtain ⟨k, hk, rfl, hown, hg⟩ := hrel
        obtain ⟨oa, ocap, rfl⟩ := hown.shape
        by_cases hkl : k < L.length
        · have t2 : (k : Int) < (L.length : Int) := by omega
          obtain ⟨pb, po, rfl, hat⟩ := HPI.out.at k hkl
          obtain ⟨vk, vv, c1, c2, s1, s2⟩ := hat.grown hg
          obtain ⟨b1, b2⟩ := HM.out k hkl
          have HT : Hid (D ++ L.take (k + 1) = (D ++ L.take k) ++ [L.getD k ([], [])]) := by
            show _ = _
            rw [List.take_succ_eq_append_getElem hkl, List.append_assoc]; simp [hkl]
          have hdl : (D ++ L.take k).length ≤ 1000 := by simp; omega
          generalize L.getD k ([], []) = P at *
          generalize D ++ L.take k = X at *
          have CK : Hid (∀ w', wr.grownBy w' none → Calls Try.prog 44 #[vk] w' fun e w'' => ∃ v', e = .returned v' ∧ Own w'.heap.size w'' v' P.1 ∧ w'.grownBy w'' none) := fun w' hg' => clone_any w' vk P.1 (s1.grown hg') (by omega)
          have CV : Hid (∀ w', wr.grownBy w' none → Calls Try.prog 44 #[vv] w' fun e w'' => ∃ v', e = .returned v' ∧ Own w'.heap.size w'' v' P.2 ∧ w'.grownBy w'' none) := fun w' hg' => clone_any w' vv P.2 (s2.grown hg') (by omega)
          obtain ⟨ka, kc, rfl⟩ := s1.shape
          obtain ⟨va, vc, rfl⟩ := s2.shape
          obtain ⟨W1, hW1⟩ : ∃ W1 : World, W1 = wr.alloc (.cells #[.slice ka P.1.length kc, .slice va P.2.length vc] 80) := ⟨_, rfl⟩
          have hgW : wr.grownBy W1 none := by rw [hW1]; exact World.grownBy_alloc _ _ _
          have HW1 : Hid (W1 = wr.alloc (.cells #[.slice ka P.1.length kc, .slice va P.2.length vc] 80)) := hW1
          obtain ⟨d1, d2, _, _⟩ := pair_room (grown_refl W1 none) (by rw [hW1]; exact heap_alloc_new wr _ : W1.heap[wr.heap.size]? = some (.cells #[.slice ka P.1.length kc, .slice va P.2.length vc] 80))
          have hsz0 := hg.size
          have HOW : Hid (OwnQ w.heap.size 0 wr (.slice oa X.length ocap) X) := hown
          clear hat s1 s2 hW1 hown
          go_wp2_with fail
          rw [← HW1.out]
          have e1 : W1.drew.cell? ⟨wr.heap.size, 0, none⟩ = some (.slice ka P.1.length kc) := d1
          have e2 : W1.drew.cell? ⟨wr.heap.size, 1, none⟩ = some (.slice va P.2.length vc) := d2
          have hgd := grown_drew hgW
          go_region_held3 (fun w' => w'.cell? ⟨wr.heap.size, 0, none⟩ = some (.slice ka P.1.length kc) ∧ w'.cell? ⟨wr.heap.size, 1, none⟩ = some (.slice va P.2.length vc))
            (first | exact ⟨e1, e2⟩ | exact ⟨f1, f2⟩ | exact ⟨f3, f4⟩ | exact ⟨(World.grownBy_alloc _ _ none).cell f3 (by simp), (World.grownBy_alloc _ _ none).cell f4 (by simp)⟩ | exact ⟨f5, f6⟩)
            (first
              | (go_at_call_of 44 (Value.slice ka P.1.length kc); refine (CK.out _ hgd).mono ?_; rintro e w2 ⟨v2, rfl, ho2, hg2⟩; obtain ⟨ka2, kc2, rfl⟩ := ho2.shape; have f1 := hg2.cell e1 (by simp); have f2 := hg2.cell e2 (by simp); have hgd2 := grown_trans hgd hg2)
              | (go_at_call_of 44 (Value.slice va P.2.length vc); refine (CV.out _ hgd2).mono ?_; rintro e w3 ⟨v3, rfl, ho3, hg3⟩; obtain ⟨va2, vc2, rfl⟩ := ho3.shape; have f3 := hg3.cell f1 (by simp); have f4 := hg3.cell f2 (by simp); have hgd3 := grown_trans hgd2 hg3)
              | (refine step_append_pairQ (by rfl) _ _ (by rfl) w.heap.size 0 (Nat.zero_le _) (.slice oa X.length ocap) X (by rfl) ((HOW.out.grownNone hgd3).alloc _) (.slice ka2 P.1.length kc2) (.slice va2 P.2.length vc2) P ((ho2.grownNone hg3).alloc _).part (ho3.alloc _).part w3.heap.size (heap_alloc_new w3 _) (by rfl) (by omega) (by have := hgd3.size; simp; omega) ?_
                 intro v4 w4 ho4 hg4
                 have f5 := hg4.cell ((World.grownBy_alloc _ _ none).cell f3 (by simp)) (fun e => absurd (HOW.out.lt _ e.symm).2 (Nat.lt_irrefl _))
                 have f6 := hg4.cell ((World.grownBy_alloc _ _ none).cell f4 (by simp)) (fun e => absurd (HOW.out.lt _ e.symm).2 (Nat.lt_irrefl _))))
          have hgw : w.grownBy w4 none := grown_ownQ (grown_alloc (grown_trans hg hgd3) _) ((HOW.out.grownNone hgd3).alloc _) (Nat.le_refl _) hg4
          have HO4 : Hid (OwnQ w.heap.size 0 w4 v4 (X ++ [P])) := ho4
          clear e1 e2 f1 f2 f3 f4 f5 f6 ho2 ho3 ho4 hg4 hgd3 hgd2 hgd hg3 hg2 hgW hg CK CV d1 d2 c1 c2
          go_wp2_with fail
          go_roundw
          case rel =>
            first
              | exact ⟨k + 1, by omega, by go_num, by rw [HT.out]; exact HO4.out, hgw⟩
              | ((repeat apply Exists.intro); refine ⟨⟨k + 1, by omega, ?_, by rw [HT.out]; exact HO4.out, hgw⟩, rfl⟩; go_num)
          case measure => simp [intOf]; omega
        · obtain rfl : k = L.length := by omega
          rw [List.take_length] at hown
          rw [List.take_length]
          go_wp2_with fail
          go_roundw
          case rel => exact ⟨m + 1, by omega, by go_num, by rw [HF.out]; exact hown, hg⟩
          case measure => simp [intOf]; omega
    · obtain rfl : m = ls.length := by omega
      rw [List.take_length] at hown
      rw [List.take_length]
      go_wp2
      go_ret
      exact ⟨_, rfl, hown, hg⟩
end Go.Proofs.Ytpmfbfflacbmjac
