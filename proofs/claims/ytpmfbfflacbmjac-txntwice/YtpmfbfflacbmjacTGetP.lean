/-
  tree.Get, as it landed, keeps P3.2.
-/
import Derived.Test.YtpmfbfflacbmjacTSearchP
import Derived.Test.YtpmfbfflacbmjacCloneP
import Derived.Test.YtpmfbfflacbmjacPart3
namespace Go.Proofs.Ytpmfbfflacbmjac
open Go.RowKit
/-- tree.Get keeps P3.2, and what it hands back is new. -/
def TGetNew : Prop := ∀ (w : World) (v u : Value) (l : PL) (k : List UInt8), PairsIs w v l → SliceIs w u k → Fits l → k.length ≤ 140737488355328 → Calls Try.prog 32 #[v, u] w fun e w' => ∃ x, e = .returned (.tuple #[.agg #[.bool (getB l k), x], .int .i64 (getE l k)]) ∧ PartIs 0 w' x (getV l k) ∧ w.grownBy w' none
theorem partIs_none (w : World) : PartIs 0 w (.slice none 0 0) [] := ⟨sliceIs_nil w, .inl rfl⟩
set_option maxRecDepth 100000 in
set_option maxHeartbeats 1000000 in
theorem tget_new : TGetNew := by
  intro w v u l k hv hu hl hkl
  obtain ⟨W0, hW0⟩ : ∃ W0 : World, W0 = w.alloc (.cells #[.bool false, .slice none 0 0] 46) := ⟨_, rfl⟩
  have hgW : w.grownBy W0 none := by rw [hW0]; exact World.grownBy_alloc _ _ _
  have C0 : Hid (W0.heap[w.heap.size]? = some (.cells #[.bool false, .slice none 0 0] 46)) := by rw [hW0]; exact heap_alloc_new w _
  have HW0 : Hid (W0 = w.alloc (.cells #[.bool false, .slice none 0 0] 46)) := hW0
  have hlt0 : w.heap.size < W0.heap.size := by rw [hW0]; simp
  have CW : Hid (Calls Try.prog 62 #[v, u] W0 fun e w' => e = .returned (.int .i64 (getE l k)) ∧ W0.grownBy w' none) := checkWith_any W0 v u l k (hv.grown hgW) (hu.grown hgW) hl
  obtain ⟨a, cap, rfl⟩ := hv.shape
  obtain ⟨ka, kcap, rfl⟩ := hu.shape
  by_cases hE : getE l k = 0
  · have HT : Hid (Tree l) := getE_tree hE
    have hT := getE_tree hE
    have hB : getB l k = (getF l k).isSome := by unfold getB; simp [hE]
    have hV : getV l k = (getF l k).getD [] := by unfold getV; rw [if_pos hE]
    have hG := get_pos l k hT.rises
    have hN : nextF l k = if hasF l k = true then posF l k + 1 else posF l k := rfl
    have PL1 : Hid (∀ w', W0.grownBy w' none → Calls Try.prog 60 #[.slice a l.length cap, .slice ka k.length kcap] w' fun e w'' => e = .returned (.tuple #[.int .i64 (posF l k : Int), .int .i64 (nextF l k : Int)]) ∧ w'.grownBy w'' none) := fun w' hg => place_any w' _ _ l k (hv.grown (grown_trans hgW hg)) (hu.grown (grown_trans hgW hg)) hT.rises hT.room
    have hroom := hT.room
    have hpl := pos_le l k
    rw [hE] at CW ⊢
    rw [hB, hV, hG]
    clear hB hV hG hE hW0 hT
    by_cases hh : hasF l k = true
    · obtain ⟨h1, h2⟩ := has_pos hh
      rw [if_pos hh] at hN ⊢
      rw [hN] at PL1
      generalize posF l k = n at *
      have hvl : (l.getD n ([], [])).2.length ≤ 32 := by
        have := (HT.out.pairs l[n] (List.getElem_mem h1)).2
        simpa [h1] using this
      obtain ⟨b, o, rfl, hat⟩ := hv.at n h1
      have HAT : Hid (PairAt w b (o + n * 2) (l.getD n ([], []))) := hat
      generalize l.getD n ([], []) = P at *
      clear hN hh hat h2 hv hu
      have t1 : (n : Int) < (l.length : Int) := by omega
      go_enter Try.func32, Try.ntmps32
      go_wp2_with fail
      rw [← HW0.out]
      refine CW.out.mono ?_
      rintro e w1 ⟨rfl, hg1⟩
      go_wp2_with fail
      refine (PL1.out _ hg1).mono ?_
      rintro e w2 ⟨rfl, hg2⟩
      have hg12 := grown_trans hg1 hg2
      have hgw := grown_trans hgW hg12
      obtain ⟨vk, vv, c1, c2, s1, s2⟩ := HAT.out.grown hgw
      obtain ⟨va, vc, rfl⟩ := s2.shape
      obtain ⟨qa, qc, rfl⟩ := s1.shape
      have S2 : Hid (SliceIs w2 (.slice va P.2.length vc) P.2) := s2
      clear s1 s2
      go_wp2_with fail
      refine (clone_any _ _ _ S2.out (by omega)).mono ?_
      rintro e w3 ⟨v3, rfl, ho3, hg3⟩
      obtain ⟨a3, cap3, rfl⟩ := ho3.shape
      have hg13 := grown_trans hg12 hg3
      obtain ⟨cA, cB, fA, fB⟩ := pair_room hg13 C0.out
      obtain ⟨cC, cD⟩ := pair_set hg13 C0.out (.bool true) (.slice a3 P.2.length cap3)
      have hs1 := hg12.size
      go_wp2
      refine bodyPost_ret (v := .tuple #[.agg #[.bool true, .slice a3 P.2.length cap3], .int .i64 0]) (by simp [results, Try.results32, go_sem, cC, cD]) rfl ?_
      refine ⟨_, rfl, ?_, grown_setNew (grown_setNew (grown_trans hgw hg3) _ (by omega) _ _) _ (by omega) _ _⟩
      exact ((ho3.setOther _ _ _ (by omega)).setOther _ _ _ (by omega)).part
    · rw [if_neg hh] at hN ⊢
      rw [hN] at PL1
      generalize posF l k = n at *
      clear hN hh hv hu
      go_enter Try.func32, Try.ntmps32
      go_wp2_with fail
      rw [← HW0.out]
      refine CW.out.mono ?_
      rintro e w1 ⟨rfl, hg1⟩
      go_wp2_with fail
      refine (PL1.out _ hg1).mono ?_
      rintro e w2 ⟨rfl, hg2⟩
      have hg12 := grown_trans hg1 hg2
      have hgw := grown_trans hgW hg12
      obtain ⟨cA, cB, fA, fB⟩ := pair_room hg12 C0.out
      obtain ⟨cC, cD⟩ := pair_set hg12 C0.out (.bool false) (.slice none 0 0)
      go_wp2
      refine bodyPost_ret (v := .tuple #[.agg #[.bool false, .slice none 0 0], .int .i64 0]) (by simp [results, Try.results32, go_sem, cC, cD]) rfl ?_
      exact ⟨_, rfl, partIs_none _, grown_setNew (grown_setNew hgw _ (by omega) _ _) _ (by omega) _ _⟩
  · have hB : getB l k = false := by unfold getB; simp [hE]
    have hV : getV l k = [] := by unfold getV; rw [if_neg hE]
    rw [hB, hV]
    generalize getE l k = z at *
    have hz : (z != 0) = true := by simpa using hE
    clear hW0 hB hV hv hu
    go_enter Try.func32, Try.ntmps32
    go_wp2_with fail
    rw [← HW0.out]
    refine CW.out.mono ?_
    rintro e w1 ⟨rfl, hg1⟩
    obtain ⟨cA, cB, fA, fB⟩ := pair_room hg1 C0.out
    obtain ⟨cC, cD⟩ := pair_set hg1 C0.out (.bool false) (.slice none 0 0)
    go_wp2
    refine bodyPost_ret (v := .tuple #[.agg #[.bool false, .slice none 0 0], .int .i64 z]) (by simp [results, Try.results32, go_sem, cC, cD]) rfl ?_
    exact ⟨_, rfl, partIs_none _, grown_setNew (grown_setNew (grown_trans hgW hg1) _ (by omega) _ _) _ (by omega) _ _⟩
theorem tget_ok : TGetOK := fun w v u l k h1 h2 h3 h4 => (tget_new w v u l k h1 h2 h3 h4).mono (by
  rintro e w' ⟨x, rfl, hx, hg⟩
  exact ⟨x, rfl, hx.slice, hg⟩)
end Go.Proofs.Ytpmfbfflacbmjac
