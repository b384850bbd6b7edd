/-
  The walk of the document's answer to P3.6: RootOf.
-/
import Derived.Test.YtdpoickggdgddaaDoorRRoot
import Derived.Test.YtdpoickggdgddaaDoorRFault
namespace Go.Proofs.YtdpoickggdgddaaDoor
open Go.RowKit
theorem RootOf_any (w : World) (v : Value) (l : PL) (hv : PairsIs w v l) :
    Calls Tryd.prog 6 #[v] w fun e w' => ∃ x, e = .returned (.tuple #[x, .int .i64 (pairsFaultF l)]) ∧ SliceIs w' x (rootF l) ∧ w.grownBy w' none := by
  by_cases h : pairsFaultF l = 0
  · rw [rootF, if_pos h, h]
    have hT := (tree_iff l).1 h
    have PF : Hid (Calls Tryd.prog 12 #[v] w fun e w' => e = .returned (.int .i64 0) ∧ w.grownBy w' none) := by
      have := pairsFault_any w v l hv
      rw [h] at this
      exact this
    have RO : Hid (∀ w', w.grownBy w' none → Calls Tryd.prog 13 #[v] w' fun e w'' => ∃ x, e = .returned x ∧ SliceIs w'' x (rootL l) ∧ w'.grownBy w'' none) := fun w' hg => rootOf_any l.length w' v l (Nat.le_refl _) (hv.grown hg) hT
    generalize rootL l = R at *
    clear h hT hv
    go_enter Tryd.func6, Tryd.ntmps6
    go_wp2_with fail
    refine PF.out.mono ?_
    rintro e w1 ⟨rfl, hg1⟩
    go_wp2_with fail
    refine (RO.out _ hg1).mono ?_
    rintro e w2 ⟨x, rfl, hx, hg2⟩
    go_wp2
    go_ret2
    exact ⟨x, rfl, hx, grown_trans hg1 hg2⟩
  · rw [rootF, if_neg h]
    have PF : Hid (Calls Tryd.prog 12 #[v] w fun e w' => e = .returned (.int .i64 (pairsFaultF l)) ∧ w.grownBy w' none) := pairsFault_any w v l hv
    generalize pairsFaultF l = z at *
    have hz : (z != 0) = true := by simpa using h
    go_enter Tryd.func6, Tryd.ntmps6
    go_wp2_with fail
    refine PF.out.mono ?_
    rintro e w1 ⟨rfl, hg1⟩
    go_wp2
    go_ret2
    exact ⟨_, rfl, sliceIs_nil _, hg1⟩
end Go.Proofs.YtdpoickggdgddaaDoor
