/-
  The walks of the document's answer: pairCopy, PairsCopy.
-/
import Derived.Test.YtpmfbfflacbmjaaPart2
import Derived.Test.YtpmfbfflacbmjaaPart8
import Derived.Deep.RegionWith
import Derived.Handy
namespace Go.Proofs.Ytpmfbfflacbmjaa
open Go.RowKit
set_option maxRecDepth 100000 in
set_option maxHeartbeats 1000000 in
theorem rpairCopy_any (w : World) (v : Value) (p : Pr) (hv : PairIs w v p) (h1 : p.1.length ≤ 140737488355328) (h2 : p.2.length ≤ 140737488355328) :
    Calls Try.prog 95 #[v] w fun e w' => ∃ vk vv, e = .returned (.agg #[vk, vv]) ∧ Own w.heap.size w' vk p.1 ∧ Own w.heap.size w' vv p.2 ∧ w.grownBy w' none := by
  obtain ⟨vk, vv, rfl, hk, hv⟩ := hv
  go_enter Try.func95, Try.ntmps95
  go_wp2_with fail
  obtain ⟨W0, hW0⟩ : ∃ W0 : World, W0 = ((w.alloc (.cells #[vk, vv] 85)).alloc (.cells #[.slice none 0 0, .slice none 0 0] 85)).drew := ⟨_, rfl⟩
  have hgW : w.grownBy W0 none := by rw [hW0]; exact grown_drew (grown_alloc (grown_alloc (grown_refl _ _) _) _)
  have J1 : Hid (Calls Try.prog 44 #[vk, .slice none 0 0] W0 fun e w' => ∃ v', e = .returned v' ∧ Own W0.heap.size w' v' p.1 ∧ W0.grownBy w' none) := by
    have := joined_gen W0 vk (.slice none 0 0) p.1 [] (hk.grown hgW) (sliceIs_nil _) (by simpa using h1)
    rw [List.append_nil] at this
    exact this
  have J2 : Hid (∀ w1, W0.grownBy w1 none → Calls Try.prog 44 #[vv, .slice none 0 0] w1 fun e w' => ∃ v', e = .returned v' ∧ Own w1.heap.size w' v' p.2 ∧ w1.grownBy w' none) := by
    intro w1 hg1
    have := joined_gen w1 vv (.slice none 0 0) p.2 [] (hv.grown (grown_trans hgW hg1)) (sliceIs_nil _) (by simpa using h2)
    rw [List.append_nil] at this
    exact this
  have HW0 : Hid (W0 = ((w.alloc (.cells #[vk, vv] 85)).alloc (.cells #[.slice none 0 0, .slice none 0 0] 85)).drew) := hW0
  have C1 : W0.cell? ⟨w.heap.size, 1, none⟩ = some vv := by rw [hW0]; simp
  have C2 : Hid (W0.heap[w.heap.size + 1]? = some (.cells #[.slice none 0 0, .slice none 0 0] 85)) := by
    have := heap_alloc_new (w.alloc (.cells #[vk, vv] 85)) (.cells #[.slice none 0 0, .slice none 0 0] 85)
    rw [hW0]
    rw [World.size_alloc] at this
    exact this
  clear hW0 hk hv
  go_region_with (go_at_call 44; first
    | (rw [← HW0.out]; refine J1.out.mono ?_; rintro e w1 ⟨v1, rfl, ho1, hg1⟩; have hc1 := hg1.cell C1 (by simp); obtain ⟨a1, cap1, rfl⟩ := ho1.shape)
    | (refine (J2.out _ ?_).mono ?_; assumption; rintro e w2 ⟨v2, rfl, ho2, hg2⟩; obtain ⟨a2, cap2, rfl⟩ := ho2.shape; obtain ⟨cA, cB, fA, fB⟩ := pair_room (grown_trans hg1 hg2) C2.out))
  all_goals (obtain ⟨cC, cD⟩ := pair_set (grown_trans hg1 hg2) C2.out (.slice a1 p.1.length cap1) (.slice a2 p.2.length cap2); clear cA cB fA fB; go_wp2; refine bodyPost_ret (v := .agg #[.slice a1 p.1.length cap1, .slice a2 p.2.length cap2]) (by simp [results, Try.results95, go_sem, cC, cD]) rfl ?_)
  all_goals
    have hs0 : w.heap.size + 2 ≤ W0.heap.size := by rw [HW0.out]; simp
    have hs1 := hg1.size
    refine ⟨_, _, rfl, ?_, ?_, ?_⟩
    · exact own_mono (((ho1.grownNone hg2).setOther _ _ _ (by omega)).setOther _ _ _ (by omega)) (by omega)
    · exact own_mono ((ho2.setOther _ _ _ (by omega)).setOther _ _ _ (by omega)) (by omega)
    · exact grown_setNew (grown_setNew (grown_trans hgW (grown_trans hg1 hg2)) _ (by omega) _ _) _ (by omega) _ _
end Go.Proofs.Ytpmfbfflacbmjaa
