/-
  The walk of canopylaw.TapeSyncs, over what the code must keep.
-/
import Derived.Test.YtkheombfjgjedaaRTapeS
import Derived.Test.YtkheombfjgjedaaTpSync
import Derived.Test.YtkheombfjgjedaaLTapes
import Derived.Test.YtkheombfjgjedaaLSameTp
namespace Go.Proofs.Ytkheombfjgjedaa
open Go.RowKit
set_option maxRecDepth 100000 in
theorem tapeSyncs_walk (hE : TpSyncOK) (w : World) (v : Value) (t : Tap) (hv : TapeIs w v t) (hl : FitsTp t) :
    Calls Try.prog 6 #[v] w fun e w' => e = .returned (.bool true) ∧ w.grownBy w' none := by
  obtain ⟨a, cap, rfl⟩ := hv.agg
  obtain ⟨W0, HW0, hg0, B0⟩ := alloc_named5 w (.cells #[.slice a t.data.length cap, .int .i64 t.synced] 39)
  obtain ⟨c0, c1, _, _⟩ := pair_room (grown_refl W0 none) B0.out
  have HV : Hid (TapeIs W0 (.agg #[.slice a t.data.length cap, .int .i64 t.synced]) t) := hv.grown hg0
  have CM : Hid (Calls Try.prog 18 #[.agg #[.slice a t.data.length cap, .int .i64 t.synced]] W0 fun e w' => ∃ x, e = .returned x ∧ TapeIs w' x t ∧ W0.grownBy w' none) := tapes_any W0 _ t HV.out hl.data
  have EN : Hid (∀ w' x, TapeIs w' x t → Calls Try.prog 19 #[x] w' fun e w'' => ∃ y, e = .returned (.tuple #[y, .int .i64 (syncE t)]) ∧ TapeIs w'' y (syncT t) ∧ w'.grownBy w'' none) := fun w' x h => hE w' x t h hl
  have CB : Hid (∀ w' x, TapeIs w' x t → Calls Try.prog 20 #[x] w' fun e w'' => ∃ y, e = .returned (.tuple #[y, .int .i64 (syncE t)]) ∧ TapeIs w'' y (syncT t) ∧ w'.grownBy w'' none) := fun w' x h => tapeSynced_any w' x t h
  have ST : Hid (∀ (T' : Tap) w' x y, TapeIs w' x T' → TapeIs w' y T' → Calls Try.prog 21 #[x, y] w' fun e w'' => e = .returned (.bool true) ∧ w'.grownBy w'' none) := fun T' w' x y h1 h2 => sameTape_same w' x y T' h1 h2
  generalize syncE t = E at *
  generalize syncT t = R at *
  have hEE : (E == E) = true := by simp
  clear hv hl hE
  go_enter Try.func6, Try.ntmps6
  go_upto_region 1 with fail
  rw [← HW0.out]
  go_wp2_with fail
  refine CM.out.mono ?_
  rintro e w1 ⟨x1, rfl, h1, hg1⟩
  obtain ⟨xa, xc, rfl⟩ := h1.agg
  obtain ⟨W1, HW1, hgA1, B1⟩ := alloc_named5 w1 (.cells #[.slice xa t.data.length xc, .int .i64 t.synced] 39)
  have HX : Hid (TapeIs W1 (.agg #[.slice xa t.data.length xc, .int .i64 t.synced]) t) := h1.grown hgA1
  have hg01 := grown_trans hg1 hgA1
  clear h1 c0 c1
  go_upto_region 2 with fail
  rw [← HW1.out]
  obtain ⟨d0, d1, _, _⟩ := pair_room (grown_refl W1 none) B1.out
  go_wp2_with fail
  refine (EN.out _ _ HX.out).mono ?_
  rintro e w2 ⟨y2, rfl, h2, hg2⟩
  obtain ⟨ya, yc, rfl⟩ := h2.agg
  obtain ⟨W2, HW2, hgA2, B2⟩ := alloc_named5 w2 (.cells #[.slice ya R.data.length yc, .int .i64 R.synced] 39)
  have HY : Hid (TapeIs W2 (.agg #[.slice ya R.data.length yc, .int .i64 R.synced]) R) := h2.grown hgA2
  have hg12 := grown_trans hg2 hgA2
  have hg02 := grown_trans hg01 hg12
  clear h2 d0 d1
  go_upto_region 3 with fail
  rw [← HW2.out]
  obtain ⟨c0, c1, _, _⟩ := pair_room hg02 B0.out
  go_wp2_with fail
  refine (CB.out _ _ (HV.out.grown hg02)).mono ?_
  rintro e w3 ⟨y3, rfl, h3, hg3⟩
  obtain ⟨za, zc, rfl⟩ := h3.agg
  obtain ⟨W3, HW3, hgA3, B3⟩ := alloc_named5 w3 (.cells #[.slice za R.data.length zc, .int .i64 R.synced] 39)
  have HZ : Hid (TapeIs W3 (.agg #[.slice za R.data.length zc, .int .i64 R.synced]) R) := h3.grown hgA3
  have hg23 := grown_trans hg3 hgA3
  have hg13 := grown_trans hg12 hg23
  have hg03 := grown_trans hg02 hg23
  clear h3 c0 c1
  go_upto_region 4 with fail
  rw [← HW3.out]
  obtain ⟨c0, c1, _, _⟩ := pair_room hg03 B0.out
  obtain ⟨d0, d1, _, _⟩ := pair_room hg13 B1.out
  obtain ⟨e0, e1, _, _⟩ := pair_room hg23 B2.out
  obtain ⟨f0, f1, _, _⟩ := pair_room (grown_refl W3 none) B3.out
  go_wp2_with fail
  refine (ST.out R _ _ _ (HY.out.grown hg23) HZ.out).mono ?_
  rintro e w4 ⟨rfl, hg4⟩
  clear c0 c1 d0 d1 e0 e1 f0 f1
  obtain ⟨c0, c1, _, _⟩ := pair_room (grown_trans hg03 hg4) B0.out
  obtain ⟨d0, d1, _, _⟩ := pair_room (grown_trans hg13 hg4) B1.out
  go_wp2_with fail
  refine (ST.out t _ _ _ (HX.out.grown (grown_trans hg13 hg4)) (HV.out.grown (grown_trans hg03 hg4))).mono ?_
  rintro e w5 ⟨rfl, hg5⟩
  go_wp2
  go_ret
  exact ⟨rfl, grown_trans hg0 (grown_trans hg03 (grown_trans hg4 hg5))⟩
end Go.Proofs.Ytkheombfjgjedaa
