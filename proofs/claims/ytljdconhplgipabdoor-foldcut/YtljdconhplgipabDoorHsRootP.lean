/-
  history.Root, as it landed, keeps P7.3.
-/
import Derived.Test.YtljdconhplgipabDoorPart5
import Derived.Test.YtljdconhplgipabDoorHsFoldP
import Derived.Test.YtljdconhplgipabDoorPart15
namespace Go.Proofs.YtljdconhplgipabDoor
open Go.RowKit
set_option maxRecDepth 100000 in
set_option maxHeartbeats 2000000 in
theorem hsroot_ok : HsRootOK := by
  intro w v l t hv hl ht0 ht1 ht
  obtain ⟨a, cap, rfl⟩ := hv.shape
  have FO : Hid (Calls Tryd.prog 7 #[.slice a l.length cap, .int .i64 t] w fun e w' => ∃ x, e = .returned (.tuple #[x, .int .i64 (foldE l t)]) ∧ TensIs w' x (foldT l t) ∧ w.grownBy w' none) := hsfold_ok w _ l t hv hl ht0 ht1
  have hF := foldT_forest l t
  have RT : Hid (∀ w' x, w.grownBy w' none → TensIs w' x (foldT l t) → Calls Tryd.prog 9 #[x] w' fun e w'' => ∃ y, e = .returned (.tuple #[y, .int .i64 0]) ∧ SliceIs w'' y (rootL (rootsF (foldT l t))) ∧ w'.grownBy w'' none) := fun w' x hg hx => by
    have h := froot_ok w' x _ hx hF.fits (ht.grownNone hg)
    have e0 : forestE (foldT l t) = 0 := (forest_iff _).2 hF
    rw [e0, frootF, if_pos e0] at h
    exact h
  obtain ⟨R, hR⟩ : ∃ R, R = hrootF l t := ⟨_, rfl⟩
  have HR1 : Hid (foldE l t = 0 → R = rootL (rootsF (foldT l t))) := fun h => by rw [hR, hrootF, if_pos h]
  have HR2 : Hid (foldE l t ≠ 0 → R = []) := fun h => by rw [hR, hrootF, if_neg h]
  rw [← hR]
  clear hR hv hl hF ht
  generalize rootL (rootsF (foldT l t)) = RR at *
  generalize foldE l t = z at *
  generalize foldT l t = Z at *
  go_enter Tryd.func8, Tryd.ntmps8
  go_wp2_with fail
  refine FO.out.mono ?_
  rintro e w1 ⟨x, rfl, hx, hg1⟩
  obtain ⟨xa, xc, rfl⟩ := hx.shape
  have HX : Hid (TensIs w1 (.slice xa Z.length xc) Z) := hx
  clear hx
  by_cases hz : z = 0
  · have HR : Hid (R = RR) := HR1.out hz
    subst hz
    clear HR1 HR2
    go_wp2_with fail
    refine (RT.out _ _ hg1 HX.out).mono ?_
    rintro e w2 ⟨y, rfl, hy, hg2⟩
    go_wp2
    go_ret2
    exact ⟨_, rfl, by rw [HR.out]; exact hy, grown_trans hg1 hg2⟩
  · have hz' : (z != 0) = true := by simpa using hz
    have HR : Hid (R = []) := HR2.out hz
    clear hz HR1 HR2
    go_wp2
    go_ret2
    exact ⟨_, rfl, by rw [HR.out]; exact sliceIs_nil _, hg1⟩
end Go.Proofs.YtljdconhplgipabDoor
