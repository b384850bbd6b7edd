/-
  history.Root, as it landed, where commits or the turn are refused.
-/
import Derived.Test.YtljdconhplgipabDoorPart5
import Derived.Test.YtljdconhplgipabDoorPart15
namespace Go.Proofs.YtljdconhplgipabDoor
open Go.RowKit
set_option maxRecDepth 100000 in
set_option maxHeartbeats 2000000 in
theorem hsrootbad_ok : HsRootBadOK := by
  intro w v l t hv hl ht0 ht1 hz
  obtain ⟨a, cap, rfl⟩ := hv.shape
  have FO : Hid (Calls Tryd.prog 7 #[.slice a l.length cap, .int .i64 t] w fun e w' => ∃ x, e = .returned (.tuple #[x, .int .i64 (foldE l t)]) ∧ TensIs w' x (foldT l t) ∧ w.grownBy w' none) := hsfold_ok w _ l t hv hl ht0 ht1
  clear hv hl
  generalize foldE l t = z at *
  generalize foldT l t = Z at *
  have hz' : (z != 0) = true := by simpa using hz
  clear hz
  go_enter Tryd.func8, Tryd.ntmps8
  go_wp2_with fail
  refine FO.out.mono ?_
  rintro e w1 ⟨x, rfl, hx, hg1⟩
  obtain ⟨xa, xc, rfl⟩ := hx.shape
  clear hx
  go_wp2
  go_ret2
  exact ⟨_, rfl, hg1⟩
end Go.Proofs.YtljdconhplgipabDoor
