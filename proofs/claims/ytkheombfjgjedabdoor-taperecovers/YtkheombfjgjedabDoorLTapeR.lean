/-
  The walk of canopylaw.TapeRecovers, over what the code must keep.
-/
import Derived.Test.YtkheombfjgjedabDoorPart22
import Derived.Test.YtkheombfjgjedabDoorPart4
import Derived.Test.YtkheombfjgjedabDoorLTapes
import Derived.Test.YtkheombfjgjedabDoorLSameTp
import Derived.Test.YtkheombfjgjedabDoorPart23
namespace Go.Proofs.YtkheombfjgjedabDoor
open Go.RowKit
set_option maxRecDepth 100000 in
set_option maxHeartbeats 1000000 in
theorem tapeRecovers_walk (hE : TpRecOK) (w : World) (v : Value) (t : Tap) (hv : TapeIs w v t) (hl : FitsTp t) (ht : Tabs w) :
    Calls Tryd.prog 3 #[v] w fun e w' => e = .returned (.bool true) ∧ w.grownBy w' none := by
  obtain ⟨a, cap, rfl⟩ := hv.agg
  obtain ⟨W0, HW0, hg0, B0⟩ := alloc_named5 w (.cells #[.slice a t.data.length cap, .int .i64 t.synced] 24)
  obtain ⟨c0, c1, _, _⟩ := pair_room (grown_refl W0 none) B0.out
  have HV : Hid (TapeIs W0 (.agg #[.slice a t.data.length cap, .int .i64 t.synced]) t) := hv.grown hg0
  have CM : Hid (Calls Tryd.prog 5 #[.agg #[.slice a t.data.length cap, .int .i64 t.synced]] W0 fun e w' => ∃ x, e = .returned x ∧ TapeIs w' x t ∧ W0.grownBy w' none) := tapes_any W0 _ t HV.out hl.data
  have EN : Hid (∀ w' x, w.grownBy w' none → TapeIs w' x t → Calls Tryd.prog 6 #[x] w' fun e w'' => ∃ vs y, e = .returned (.tuple #[vs, y, .int .i64 (recE t)]) ∧ CommitsIs w'' vs (recC fourF t) ∧ TapeIs w'' y (recT fourF t) ∧ w'.grownBy w'' none) := fun w' x hg h => hE w' x t h hl (ht.grownNone hg)
  have CB : Hid (∀ w' x, TapeIs w' x t → Calls Tryd.prog 7 #[x] w' fun e w'' => ∃ vs y, e = .returned (.tuple #[vs, y, .int .i64 (recE t)]) ∧ CommitsIs w'' vs (recC fourF t) ∧ TapeIs w'' y (recT fourF t) ∧ w'.grownBy w'' none) := fun w' x h => tapeRecovered_any w' x t h
  obtain ⟨f1, f2⟩ := recC_each fourF t
  have SL : Hid (∀ w' x y, CommitsIs w' x (recC fourF t) → CommitsIs w' y (recC fourF t) → Calls Tryd.prog 8 #[x, y] w' fun e w'' => e = .returned (.bool true) ∧ w'.grownBy w'' none) := fun w' x y h1 h2 => sameCommits_same w' x y _ h1 h2 (by omega) (fun i hi => (commit_fits (f2 i hi)).writes)
  have ST : Hid (∀ (T' : Tap) w' x y, TapeIs w' x T' → TapeIs w' y T' → Calls Tryd.prog 9 #[x, y] w' fun e w'' => e = .returned (.bool true) ∧ w'.grownBy w'' none) := fun T' w' x y h1 h2 => sameTape_same w' x y T' h1 h2
  generalize recE t = E at *
  generalize recT fourF t = R at *
  generalize recC fourF t = cs at *
  have hEE : (E == E) = true := by simp
  clear hv hl hE ht f1 f2
  go_enter Tryd.func3, Tryd.ntmps3
  go_upto_region 1 with fail
  rw [← HW0.out]
  go_wp2_with fail
  refine CM.out.mono ?_
  rintro e w1 ⟨x1, rfl, h1, hg1⟩
  obtain ⟨xa, xc, rfl⟩ := h1.agg
  obtain ⟨W1, HW1, hgA1, B1⟩ := alloc_named5 w1 (.cells #[.slice xa t.data.length xc, .int .i64 t.synced] 24)
  have HX : Hid (TapeIs W1 (.agg #[.slice xa t.data.length xc, .int .i64 t.synced]) t) := h1.grown hgA1
  have hg01 := grown_trans hg1 hgA1
  clear h1 c0 c1
  go_upto_region 2 with fail
  rw [← HW1.out]
  obtain ⟨d0, d1, _, _⟩ := pair_room (grown_refl W1 none) B1.out
  go_wp2_with fail
  refine (EN.out _ _ (grown_trans hg0 hg01) HX.out).mono ?_
  rintro e w2 ⟨vs, y2, rfl, h2c, h2, hg2⟩
  obtain ⟨ga, gc, rfl⟩ := h2c.shape
  obtain ⟨ya, yc, rfl⟩ := h2.agg
  obtain ⟨W2, HW2, hgA2, B2⟩ := alloc_named5 w2 (.cells #[.slice ya R.data.length yc, .int .i64 R.synced] 24)
  have HY : Hid (TapeIs W2 (.agg #[.slice ya R.data.length yc, .int .i64 R.synced]) R) := h2.grown hgA2
  have HYC : Hid (CommitsIs W2 (.slice ga cs.length gc) cs) := h2c.grown hgA2
  have hg12 := grown_trans hg2 hgA2
  have hg02 := grown_trans hg01 hg12
  clear h2 h2c d0 d1
  go_upto_region 3 with fail
  rw [← HW2.out]
  obtain ⟨c0, c1, _, _⟩ := pair_room hg02 B0.out
  go_wp2_with fail
  refine (CB.out _ _ (HV.out.grown hg02)).mono ?_
  rintro e w3 ⟨us, y3, rfl, h3c, h3, hg3⟩
  obtain ⟨ha, hc, rfl⟩ := h3c.shape
  obtain ⟨za, zc, rfl⟩ := h3.agg
  obtain ⟨W3, HW3, hgA3, B3⟩ := alloc_named5 w3 (.cells #[.slice za R.data.length zc, .int .i64 R.synced] 24)
  have HZ : Hid (TapeIs W3 (.agg #[.slice za R.data.length zc, .int .i64 R.synced]) R) := h3.grown hgA3
  have HZC : Hid (CommitsIs W3 (.slice ha cs.length hc) cs) := h3c.grown hgA3
  have hg23 := grown_trans hg3 hgA3
  have hg13 := grown_trans hg12 hg23
  have hg03 := grown_trans hg02 hg23
  clear h3 h3c c0 c1
  go_upto_region 4 with fail
  rw [← HW3.out]
  go_wp2_with fail
  refine (SL.out _ _ _ (HYC.out.grown hg23) HZC.out).mono ?_
  rintro e w4 ⟨rfl, hg4⟩
  obtain ⟨e0, e1, _, _⟩ := pair_room (grown_trans hg23 hg4) B2.out
  obtain ⟨f0, f1, _, _⟩ := pair_room hg4 B3.out
  go_wp2_with fail
  refine (ST.out R _ _ _ (HY.out.grown (grown_trans hg23 hg4)) (HZ.out.grown hg4)).mono ?_
  rintro e w5 ⟨rfl, hg5⟩
  have hg35 := grown_trans hg4 hg5
  clear e0 e1 f0 f1
  obtain ⟨c0, c1, _, _⟩ := pair_room (grown_trans hg03 hg35) B0.out
  obtain ⟨d0, d1, _, _⟩ := pair_room (grown_trans hg13 hg35) B1.out
  go_wp2_with fail
  refine (ST.out t _ _ _ (HX.out.grown (grown_trans hg13 hg35)) (HV.out.grown (grown_trans hg03 hg35))).mono ?_
  rintro e w6 ⟨rfl, hg6⟩
  go_wp2
  go_ret
  exact ⟨rfl, grown_trans hg0 (grown_trans hg03 (grown_trans hg35 hg6))⟩
end Go.Proofs.YtkheombfjgjedabDoor
