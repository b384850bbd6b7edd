/-
  The walk of canopylaw.TapeEncodes, over what the code must keep.
-/
import Derived.Test.YtkheombfjgjedaaPart7
import Derived.Test.YtkheombfjgjedaaPart2
import Derived.Test.YtkheombfjgjedaaLCmt
import Derived.Test.YtkheombfjgjedaaLSameC
import Derived.Test.YtkheombfjgjedaaLSame
namespace Go.Proofs.Ytkheombfjgjedaa
open Go.RowKit
set_option maxRecDepth 100000 in
theorem tapeEncodes_walk (hE : TpEncOK) (w : World) (v : Value) (c : Cmt) (hv : CommitIs w v c) (hl : FitsC c) :
    Calls Try.prog 4 #[v] w fun e w' => e = .returned (.bool true) ∧ w.grownBy w' none := by
  obtain ⟨a, cap, rfl⟩ := hv.agg
  obtain ⟨W0, HW0, hg0, B0⟩ := alloc_named5 w (.cells #[.int .i64 c.turn, .slice a c.writes.length cap] 24)
  obtain ⟨c0, c1, _, _⟩ := pair_room (grown_refl W0 none) B0.out
  have HV : Hid (CommitIs W0 (.agg #[.int .i64 c.turn, .slice a c.writes.length cap]) c) := hv.grown hg0
  have CM : Hid (Calls Try.prog 9 #[.agg #[.int .i64 c.turn, .slice a c.writes.length cap]] W0 fun e w' => ∃ x, e = .returned x ∧ CommitIs w' x c ∧ W0.grownBy w' none) := commit_any W0 _ c HV.out hl.writes
  have EN : Hid (∀ w' x, CommitIs w' x c → Calls Try.prog 11 #[x] w' fun e w'' => ∃ y, e = .returned (.tuple #[y, .int .i64 (commitE c)]) ∧ SliceIs w'' y (encF c) ∧ w'.grownBy w'' none) := fun w' x h => hE w' x c h hl
  have CB : Hid (∀ w' x, CommitIs w' x c → Calls Try.prog 12 #[x] w' fun e w'' => ∃ y, e = .returned (.tuple #[y, .int .i64 (commitE c)]) ∧ SliceIs w'' y (encF c) ∧ w'.grownBy w'' none) := fun w' x h => commitBytes_any w' x c h hl.writes
  have SC : Hid (∀ w' x y, CommitIs w' x c → CommitIs w' y c → Calls Try.prog 14 #[x, y] w' fun e w'' => e = .returned (.bool true) ∧ w'.grownBy w'' none) := fun w' x y h1 h2 => sameCommit_same w' x y c h1 h2 hl.writes
  generalize commitE c = E at *
  generalize encF c = B at *
  have hEE : (E == E) = true := by simp
  clear hv hl hE
  go_enter Try.func4, Try.ntmps4
  go_upto_region 1 with fail
  rw [← HW0.out]
  go_wp2_with fail
  refine CM.out.mono ?_
  rintro e w1 ⟨x1, rfl, h1, hg1⟩
  obtain ⟨xa, xc, rfl⟩ := h1.agg
  obtain ⟨W1, HW1, hgA1, B1⟩ := alloc_named5 w1 (.cells #[.int .i64 c.turn, .slice xa c.writes.length xc] 24)
  have HX : Hid (CommitIs W1 (.agg #[.int .i64 c.turn, .slice xa c.writes.length xc]) c) := h1.grown hgA1
  have hg01 := grown_trans hg1 hgA1
  clear h1 c0 c1
  go_upto_region 2 with fail
  rw [← HW1.out]
  obtain ⟨d0, d1, _, _⟩ := pair_room (grown_refl W1 none) B1.out
  go_wp2_with fail
  refine (EN.out _ _ HX.out).mono ?_
  rintro e w2 ⟨y2, rfl, h2, hg2⟩
  have HY : Hid (SliceIs w2 y2 B) := h2
  obtain ⟨ya, yc, rfl⟩ := h2.shape
  have hg02 := grown_trans hg01 hg2
  clear h2 d0 d1
  obtain ⟨c0, c1, _, _⟩ := pair_room hg02 B0.out
  go_wp2_with fail
  refine (CB.out _ _ (HV.out.grown hg02)).mono ?_
  rintro e w3 ⟨y3, rfl, h3, hg3⟩
  obtain ⟨za, zc, rfl⟩ := h3.shape
  have hg03 := grown_trans hg02 hg3
  have hg23 := grown_trans hg2 hg3
  have SB : Hid (Calls Try.prog 13 #[.slice ya B.length yc, .slice za B.length zc] w3 fun e w' => e = .returned (.bool true) ∧ w' = w3) := by
    have := sameBytes_any w3 _ _ B B (HY.out.grown hg3) h3
    rw [decide_eq_true rfl] at this
    exact this
  clear h3 c0 c1
  obtain ⟨c0, c1, _, _⟩ := pair_room hg03 B0.out
  obtain ⟨d0, d1, _, _⟩ := pair_room hg23 B1.out
  generalize B.length = bl at *
  go_wp2_with fail
  refine SB.out.mono ?_
  rintro e w' ⟨rfl, rfl⟩
  go_wp2_with fail
  refine (SC.out _ _ _ (HV.out.grown hg03) (HX.out.grown hg23)).mono ?_
  rintro e w5 ⟨rfl, hg5⟩
  go_wp2
  go_ret
  exact ⟨rfl, grown_trans hg0 (grown_trans hg03 hg5)⟩
end Go.Proofs.Ytkheombfjgjedaa
