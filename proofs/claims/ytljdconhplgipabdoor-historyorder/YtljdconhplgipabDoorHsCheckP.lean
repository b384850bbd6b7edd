/-
  history.Check, as it landed, keeps P7.1.
-/
import Derived.Test.YtljdconhplgipabDoorPart11
import Derived.Test.YtljdconhplgipabDoorPart15
namespace Go.Proofs.YtljdconhplgipabDoor
open Go.RowKit
set_option maxRecDepth 100000 in
set_option maxHeartbeats 2000000 in
theorem hscheck_ok : HsCheckOK := by
  intro w v l hv hl
  obtain ⟨a, cap, rfl⟩ := hv.shape
  have BE : Hid (Calls Tryd.prog 16 #[.slice a l.length cap, .slice none 0 0] w fun e w' => ∃ x, e = .returned (.tuple #[x, .int .i64 (histE l)]) ∧ w.grownBy w' none) := by
    have h := behind_any w _ _ l [] hv hl (ints_nil w) (by simp)
    rw [behE_none] at h
    refine h.mono ?_
    rintro e w' ⟨x, rfl, _, hg⟩
    exact ⟨x, rfl, hg⟩
  generalize histE l = z at *
  clear hv hl
  go_enter Tryd.func12, Tryd.ntmps12
  go_wp2_with fail
  refine BE.out.mono ?_
  rintro e w1 ⟨x, rfl, hg1⟩
  go_wp2
  go_ret
  exact ⟨rfl, hg1⟩
end Go.Proofs.YtljdconhplgipabDoor
