/-
  The walk of the document's answer to P3.2: GetOf.
-/
import Derived.Test.YtpmfbfflacbmjaaRPairsKey
import Derived.Test.YtpmfbfflacbmjaaPart17
import Derived.Test.YtpmfbfflacbmjaaPart1
import Derived.Test.YtpmfbfflacbmjaaPart8
import Derived.Deep.RegionWith
import Derived.Handy
namespace Go.Proofs.Ytpmfbfflacbmjaa
open Go.RowKit
set_option maxRecDepth 100000 in
set_option maxHeartbeats 1000000 in
theorem getOf_any (w : World) (v u : Value) (l : PL) (k : List UInt8) (hv : PairsIs w v l) (hu : SliceIs w u k) :
    Calls Try.prog 88 #[v, u] w fun e w' => ∃ x, e = .returned (.tuple #[.agg #[.bool (getB l k), x], .int .i64 (getE l k)]) ∧ SliceIs w' x (getV l k) ∧ w.grownBy w' none := by
  obtain ⟨a, cap, rfl⟩ := hv.shape
  obtain ⟨ka, kcap, rfl⟩ := hu.shape
  obtain ⟨W0, hW0⟩ : ∃ W0 : World, W0 = w.alloc (.cells #[.bool false, .slice none 0 0] 45) := ⟨_, rfl⟩
  have hgW : w.grownBy W0 none := by rw [hW0]; exact World.grownBy_alloc _ _ _
  have C0 : Hid (W0.heap[w.heap.size]? = some (.cells #[.bool false, .slice none 0 0] 45)) := by rw [hW0]; exact heap_alloc_new w _
  have HW0 : Hid (W0 = w.alloc (.cells #[.bool false, .slice none 0 0] 45)) := hW0
  have PK : Hid (Calls Try.prog 94 #[.slice a l.length cap, .slice ka k.length kcap] W0 fun e w' => e = .returned (.int .i64 (getE l k)) ∧ W0.grownBy w' none) :=
    pairsAndKey_any W0 (.slice a l.length cap) l ka k.length kcap (hv.grown hgW)
  by_cases hE : getE l k = 0
  · rw [hE] at PK ⊢
    have hB : getB l k = (getF l k).isSome := by unfold getB; simp [hE]
    have hV : getV l k = (getF l k).getD [] := by unfold getV; rw [if_pos hE]
    rw [hB, hV]
    have HT : Hid (Tree l) := by
      have : pairsFaultF l = 0 := by
        unfold getE at hE
        by_cases h : pairsFaultF l = 0
        · exact h
        · rw [if_neg h] at hE; exact absurd hE h
      exact (tree_iff l).1 this
    have hroom := HT.out.room
    clear hB hV hE hW0
    go_enter Try.func88, Try.ntmps88
    go_wp2_with fail
    rw [← HW0.out]
    refine PK.out.mono ?_
    rintro e w1 ⟨rfl, hg1⟩
    have hgw1 := grown_trans hgW hg1
    go_wp2_with fail
    go_loopw [7] (fun i wr => ∃ m : Nat, m ≤ l.length ∧ i = .int .i64 (m : Int) ∧ W0.grownBy wr none ∧ ∀ j, j < m → (l.getD j ([], [])).1 ≠ k) (fun i _ => l.length - (intOf i).toNat)
    case atStart => exact ⟨0, by omega, rfl, hg1, fun j hj => by omega⟩
    case round =>
      clear hg1 hgw1
      obtain ⟨m, hm, rfl, hg1, hne⟩ := hrel
      have HN : Hid (∀ j, j < m → (l.getD j ([], [])).1 ≠ k) := hne
      have hgw1 := grown_trans hgW hg1
      clear hne
      by_cases hlt : m < l.length
      · obtain ⟨b, o, rfl, hat⟩ := hv.at m hlt
        obtain ⟨vk, vv, c1, c2, s1, s2⟩ := hat.grown hgw1
        have HG : Hid ((l.getD m ([], [])).1 = k → getF l k = some (l.getD m ([], [])).2) := get_at l k m hlt HN.out
        have hvl : (l.getD m ([], [])).2.length ≤ 32 := by
          have := (HT.out.pairs l[m] (List.getElem_mem hlt)).2
          simpa [hlt] using this
        have HP : Hid ((l.getD m ([], [])).1 = (l.getD m ([], [])).1) := rfl
        generalize hP : l.getD m ([], []) = P at *
        have HPm : Hid (l.getD m ([], []) = P) := hP
        have hk := hu.grown hgw1
        have SB : Hid (Calls Try.prog 55 #[vk, .slice ka k.length kcap] wr fun e w' => e = .returned (.bool (decide (P.1 = k))) ∧ w' = wr) := rsame_any wr _ _ _ _ s1 hk
        have JO : Hid (Calls Try.prog 44 #[vv, .slice none 0 0] wr fun e w' => ∃ v', e = .returned v' ∧ Own wr.heap.size w' v' P.2 ∧ wr.grownBy w' none) := by
          have := joined_gen wr vv (.slice none 0 0) P.2 [] s2 (sliceIs_nil _) (by simp; omega)
          rw [List.append_nil] at this
          exact this
        clear s1 s2 hk hat hP
        have i1 : (m : Int) < (l.length : Int) := by omega
        go_wp2_with fail
        refine SB.out.mono ?_
        rintro e w2 ⟨rfl, rfl⟩
        by_cases he : P.1 = k
        · rw [decide_eq_true he]
          have HF : Hid (getF l k = some P.2) := HG.out he
          go_wp2_with fail
          refine JO.out.mono ?_
          rintro e w3 ⟨v3, rfl, ho3, hg3⟩
          obtain ⟨a3, cap3, rfl⟩ := ho3.shape
          obtain ⟨cA, cB, fA, fB⟩ := pair_room (grown_trans hg1 hg3) C0.out
          obtain ⟨cC, cD⟩ := pair_set (grown_trans hg1 hg3) C0.out (.bool true) (.slice a3 P.2.length cap3)
          have hs0 := hgW.size
          have hs1 := hg1.size
          have hlt0 : w.heap.size < W0.heap.size := by rw [HW0.out]; simp
          go_wp2
          refine bodyPost_ret (v := .tuple #[.agg #[.bool true, .slice a3 P.2.length cap3], .int .i64 0]) (by simp [results, Try.results88, go_sem, cC, cD]) rfl ?_
          refine ⟨_, by rw [HF.out]; rfl, ?_, grown_setNew (grown_setNew (grown_trans hgw1 hg3) _ (by omega) _ _) _ (by omega) _ _⟩
          rw [HF.out]
          exact ((ho3.setOther _ _ _ (by omega)).setOther _ _ _ (by omega)).slice
        · rw [decide_eq_false he]
          have HE : Hid (P.1 ≠ k) := he
          clear he
          go_wp2_with fail
          go_roundw
          case rel =>
            have hs : ∀ j, j < m + 1 → (l.getD j ([], [])).1 ≠ k := fun j hj => by
              by_cases hjm : j = m
              · subst hjm; rw [HPm.out]; exact HE.out
              · exact HN.out j (by omega)
            first
              | exact ⟨m + 1, by omega, by go_num, hg1, hs⟩
              | ((repeat apply Exists.intro); refine ⟨⟨m + 1, by omega, ?_, hg1, hs⟩, rfl⟩; go_num)
          case measure => simp [intOf]; omega
      · obtain rfl : m = l.length := by omega
        have HF : Hid (getF l k = none) := get_none l k HN.out
        obtain ⟨cA, cB, fA, fB⟩ := pair_room hg1 C0.out
        obtain ⟨cC, cD⟩ := pair_set hg1 C0.out (.bool false) (.slice none 0 0)
        go_wp2
        refine bodyPost_ret (v := .tuple #[.agg #[.bool false, .slice none 0 0], .int .i64 0]) (by simp [results, Try.results88, go_sem, cC, cD]) rfl ?_
        exact ⟨_, by rw [HF.out]; rfl, by rw [HF.out]; exact sliceIs_nil _, grown_setNew (grown_setNew hgw1 _ (by omega) _ _) _ (by omega) _ _⟩
  · have hB : getB l k = false := by unfold getB; simp [hE]
    have hV : getV l k = [] := by unfold getV; rw [if_neg hE]
    rw [hB, hV]
    generalize getE l k = z at *
    have hz : (z != 0) = true := by simpa using hE
    clear hW0 hB hV
    go_enter Try.func88, Try.ntmps88
    go_wp2_with fail
    rw [← HW0.out]
    refine PK.out.mono ?_
    rintro e w1 ⟨rfl, hg1⟩
    obtain ⟨cA, cB, fA, fB⟩ := pair_room hg1 C0.out
    obtain ⟨cC, cD⟩ := pair_set hg1 C0.out (.bool false) (.slice none 0 0)
    go_wp2
    refine bodyPost_ret (v := .tuple #[.agg #[.bool false, .slice none 0 0], .int .i64 z]) (by simp [results, Try.results88, go_sem, cC, cD]) rfl ?_
    exact ⟨_, rfl, sliceIs_nil _, grown_setNew (grown_setNew (grown_trans hgW hg1) _ (by omega) _ _) _ (by omega) _ _⟩
end Go.Proofs.Ytpmfbfflacbmjaa
