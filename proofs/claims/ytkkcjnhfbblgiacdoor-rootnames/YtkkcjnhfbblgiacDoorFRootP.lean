/-
  forest.Root, as it landed, keeps P5.5.
-/
import Derived.Test.YtkkcjnhfbblgiacDoorFRootsP
import Derived.Test.YtkkcjnhfbblgiacDoorPart8
import Derived.Test.YtkkcjnhfbblgiacDoorPart7
namespace Go.Proofs.YtkkcjnhfbblgiacDoor
open Go.RowKit
set_option maxRecDepth 100000 in
set_option maxHeartbeats 1000000 in
theorem froot_ok : FRootOK := by
  intro w v l hv hl ht
  have CH : Hid (Calls Tryd.prog 20 #[v] w fun e w' => e = .returned (.int .i64 (forestE l)) ∧ w.grownBy w' none) := fcheck_ok w v l hv hl
  by_cases hz : forestE l = 0
  · have hF := (forest_iff l).1 hz
    have hR := roots_tree hF
    have e1 : frootF l = rootL (rootsF l) := by rw [frootF, if_pos hz]
    rw [e1, hz]
    rw [hz] at CH
    have RP : Hid (∀ w', w.grownBy w' none → Calls Tryd.prog 21 #[v] w' fun e w'' => ∃ x, e = .returned (.tuple #[x, .int .i64 0]) ∧ PairsIs w'' x (rootsF l) ∧ w'.grownBy w'' none) := fun w' hg => rootPairs_any w' v l (hv.grown hg) hF (ht.grownNone hg)
    have TR : Hid (∀ w' x, w.grownBy w' none → PairsIs w' x (rootsF l) → Calls Tryd.prog 15 #[x] w' fun e w'' => ∃ y, e = .returned (.tuple #[y, .int .i64 0]) ∧ NewD w' w'' y (rootL (rootsF l)) ∧ w'.grownBy w'' none) := fun w' x hg hx => troot_new w' x _ hx hR (ht.grownNone hg)
    have hrl := rootL_len (rootsF l)
    generalize rootL (rootsF l) = D at *
    generalize rootsF l = R at *
    obtain ⟨a, cap, rfl⟩ := hv.shape
    clear hv hl ht hF hR e1 hz
    go_enter Tryd.func8, Tryd.ntmps8
    go_wp2_with fail
    refine CH.out.mono ?_
    rintro e w1 ⟨rfl, hg1⟩
    go_wp2_with fail
    refine (RP.out _ hg1).mono ?_
    rintro e w2 ⟨x, rfl, hx, hg2⟩
    have HX : Hid (PairsIs w2 x R) := hx
    obtain ⟨xa, xc, rfl⟩ := hx.shape
    have hg12 := grown_trans hg1 hg2
    clear hx
    go_wp2_with fail
    refine (TR.out _ _ hg12 HX.out).mono ?_
    rintro e w3 ⟨y, rfl, hy, hg3⟩
    have HS : Hid (SliceIs w3 y D) := hy.slice hrl
    obtain ⟨nb, _, rfl, _⟩ := hy
    go_wp2
    go_ret2
    exact ⟨_, rfl, HS.out, grown_trans hg12 hg3⟩
  · have e1 : frootF l = [] := by rw [frootF, if_neg hz]
    rw [e1]
    generalize forestE l = z at *
    have hz' : (z != 0) = true := by simpa using hz
    obtain ⟨a, cap, rfl⟩ := hv.shape
    clear hv hl ht e1
    go_enter Tryd.func8, Tryd.ntmps8
    go_wp2_with fail
    refine CH.out.mono ?_
    rintro e w1 ⟨rfl, hg1⟩
    go_wp2
    go_ret2
    exact ⟨_, rfl, sliceIs_nil _, hg1⟩
end Go.Proofs.YtkkcjnhfbblgiacDoor
