/-
  The walk of the document's answer to P5.5: ForestRoot.
-/
import Derived.Test.YtkkcjnhfbblgiaaDoorRRoots
import Derived.Test.YtkkcjnhfbblgiaaDoorRForF
namespace Go.Proofs.YtkkcjnhfbblgiaaDoor
open Go.RowKit
set_option maxRecDepth 100000 in
set_option maxHeartbeats 1000000 in
theorem forestRoot_any (w : World) (v : Value) (l : FL) (hv : TensIs w v l) :
    Calls Tryd.prog 6 #[v] w fun e w' => ∃ x, e = .returned (.tuple #[x, .int .i64 (forestE l)]) ∧ SliceIs w' x (frootF l) ∧ w.grownBy w' none := by
  have FF : Hid (Calls Tryd.prog 13 #[v] w fun e w' => e = .returned (.int .i64 (forestE l)) ∧ w.grownBy w' none) := forestFault_any w v l hv
  obtain ⟨a, cap, rfl⟩ := hv.shape
  by_cases hz : forestE l = 0
  · have hF := (forest_iff l).1 hz
    have hR := roots_tree hF
    have e1 : frootF l = rootL (rootsF l) := by rw [frootF, if_pos hz]
    rw [e1, hz]
    rw [hz] at FF
    have RP : Hid (∀ w', w.grownBy w' none → Calls Tryd.prog 14 #[.slice a l.length cap] w' fun e w'' => ∃ x, e = .returned x ∧ PairsIs w'' x (rootsF l) ∧ w'.grownBy w'' none) := fun w' hg => rootsOf_any w' _ l (hv.grown hg) hF
    have TR : Hid (∀ w' x, PairsIs w' x (rootsF l) → Calls Tryd.prog 15 #[x] w' fun e w'' => ∃ y, e = .returned y ∧ SliceIs w'' y (rootL (rootsF l)) ∧ w'.grownBy w'' none) := fun w' x hx => rootOf_any (rootsF l).length w' x _ (Nat.le_refl _) hx hR
    generalize rootL (rootsF l) = D at *
    generalize rootsF l = R at *
    clear hv hF hR e1 hz
    go_enter Tryd.func6, Tryd.ntmps6
    go_wp2_with fail
    refine FF.out.mono ?_
    rintro e w1 ⟨rfl, hg1⟩
    go_wp2_with fail
    refine (RP.out _ hg1).mono ?_
    rintro e w2 ⟨x, rfl, hx, hg2⟩
    have HX : Hid (PairsIs w2 x R) := hx
    obtain ⟨xa, xc, rfl⟩ := hx.shape
    have hg12 := grown_trans hg1 hg2
    clear hx
    go_wp2_with fail
    refine (TR.out _ _ HX.out).mono ?_
    rintro e w3 ⟨y, rfl, hy, hg3⟩
    have HS : Hid (SliceIs w3 y D) := hy
    obtain ⟨ya, yc, rfl⟩ := hy.shape
    clear hy
    go_wp2
    go_ret2
    exact ⟨_, rfl, HS.out, grown_trans hg12 hg3⟩
  · have e1 : frootF l = [] := by rw [frootF, if_neg hz]
    rw [e1]
    generalize forestE l = z at *
    have hz' : (z != 0) = true := by simpa using hz
    clear hv e1
    go_enter Tryd.func6, Tryd.ntmps6
    go_wp2_with fail
    refine FF.out.mono ?_
    rintro e w1 ⟨rfl, hg1⟩
    go_wp2
    go_ret2
    exact ⟨_, rfl, sliceIs_nil _, hg1⟩
end Go.Proofs.YtkkcjnhfbblgiaaDoor
