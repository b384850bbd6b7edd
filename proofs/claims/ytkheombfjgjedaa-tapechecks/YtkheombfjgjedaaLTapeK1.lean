/-
  The walk of canopylaw.TapeChecks, over what the code must keep.
-/
import Derived.Test.YtkheombfjgjedaaRTape1
import Derived.Test.YtkheombfjgjedaaPart2
import Derived.Test.YtkheombfjgjedaaLCmt
namespace Go.Proofs.Ytkheombfjgjedaa
open Go.RowKit
set_option maxRecDepth 100000 in
theorem tapeChecks_walk (hE : TpCheckOK) (w : World) (v : Value) (c : Cmt) (hv : CommitIs w v c) (hl : FitsC c) :
    Calls Try.prog 3 #[v] w fun e w' => e = .returned (.bool true) ∧ w.grownBy w' none := by
  obtain ⟨a, cap, rfl⟩ := hv.agg
  obtain ⟨W0, HW0, hg0, B0⟩ := alloc_named5 w (.cells #[.int .i64 c.turn, .slice a c.writes.length cap] 24)
  obtain ⟨c0, c1, _, _⟩ := pair_room (grown_refl W0 none) B0.out
  have HV : Hid (CommitIs W0 (.agg #[.int .i64 c.turn, .slice a c.writes.length cap]) c) := hv.grown hg0
  have CM : Hid (Calls Try.prog 9 #[.agg #[.int .i64 c.turn, .slice a c.writes.length cap]] W0 fun e w' => ∃ x, e = .returned x ∧ CommitIs w' x c ∧ W0.grownBy w' none) := commit_any W0 _ c HV.out hl.writes
  have EN : Hid (∀ w' x, CommitIs w' x c → Calls Try.prog 8 #[x] w' fun e w'' => e = .returned (.int .i64 (commitE c)) ∧ w'.grownBy w'' none) := fun w' x h => hE w' x c h hl
  have CB : Hid (∀ w' x, CommitIs w' x c → Calls Try.prog 10 #[x] w' fun e w'' => e = .returned (.int .i64 (commitE c)) ∧ w'.grownBy w'' none) := fun w' x h => commitFault_any w' x c h hl.writes
  generalize commitE c = E at *
  have hEE : (E == E) = true := by simp
  clear hv hl hE
  go_enter Try.func3, Try.ntmps3
  go_upto_region 1 with fail
  rw [← HW0.out]
  go_wp2_with fail
  refine CM.out.mono ?_
  rintro e w1 ⟨x1, rfl, h1, hg1⟩
  obtain ⟨xa, xc, rfl⟩ := h1.agg
  have HX : Hid (CommitIs w1 (.agg #[.int .i64 c.turn, .slice xa c.writes.length xc]) c) := h1
  clear h1 c0 c1
  go_wp2_with fail
  refine (EN.out _ _ HX.out).mono ?_
  rintro e w2 ⟨rfl, hg2⟩
  have hg02 := grown_trans hg1 hg2
  obtain ⟨c0, c1, _, _⟩ := pair_room hg02 B0.out
  go_wp2_with fail
  refine (CB.out _ _ (HV.out.grown hg02)).mono ?_
  rintro e w3 ⟨rfl, hg3⟩
  go_wp2
  go_ret
  exact ⟨rfl, grown_trans hg0 (grown_trans hg02 hg3)⟩
end Go.Proofs.Ytkheombfjgjedaa
