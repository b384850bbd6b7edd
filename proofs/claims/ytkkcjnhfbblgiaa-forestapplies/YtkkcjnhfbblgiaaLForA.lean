/-
  The walk of canopylaw.ForestApplies, over what the code must keep.
-/
import Derived.Test.YtkkcjnhfbblgiaaPart4
import Derived.Test.YtkkcjnhfbblgiaaRApplied
import Derived.Test.YtkkcjnhfbblgiaaPart7
import Derived.Test.YtkkcjnhfbblgiaaLWrites
import Derived.Test.YtkkcjnhfbblgiaaLSameW
namespace Go.Proofs.Ytkkcjnhfbblgiaa
open Go.RowKit
theorem apply_forestA : ∀ (ws : List Plc) (l : FL), Forest l → applyE l ws = 0 → Forest (applyL l ws)
  | [], l, h, _ => h
  | w :: ws, l, h, he => by
    rw [applyE] at he
    by_cases hw : writeE w = 0
    · rw [if_pos hw] at he
      by_cases h2 : writtenE l w = 0
      · rw [if_pos h2] at he
        exact apply_forestA ws _ (written_forest h hw h2) he
      · rw [if_neg h2] at he; exact absurd he h2
    · rw [if_neg hw] at he; exact absurd he hw
theorem applied_fits (l : FL) (ws : List Plc) : FitsT (appliedF l ws) := by
  unfold appliedF
  by_cases h : appliedE l ws = 0
  · rw [if_pos h]
    unfold appliedE at h
    by_cases h0 : forestE l = 0
    · rw [if_pos h0] at h
      by_cases h1 : 10 < ws.length
      · rw [if_pos h1] at h; cases h
      · rw [if_neg h1] at h
        exact (apply_forestA ws l ((forest_iff l).1 h0) h).fits
    · rw [if_neg h0] at h; exact absurd h h0
  · rw [if_neg h]; exact forest_nil.fits
set_option maxRecDepth 100000 in
set_option maxHeartbeats 1000000 in
theorem forestApplies_walk (hC : FApplyOK) (w : World) (v u : Value) (l : FL) (ws : List Plc) (hv : TensIs w v l) (hu : WritesIs w u ws) (hl : FitsT l) (hw : FitsW ws) :
    Calls Try.prog 7 #[v, u] w fun e w' => e = .returned (.bool true) ∧ w.grownBy w' none := by
  have TE : Hid (Calls Try.prog 12 #[v] w fun e w' => ∃ v', e = .returned v' ∧ OwnT w.heap.size w' v' l ∧ w.grownBy w' none) := tenants_any w v l hv hl
  have WE : Hid (∀ w', w.grownBy w' none → Calls Try.prog 20 #[u] w' fun e w'' => ∃ v', e = .returned v' ∧ OwnW w'.heap.size w'' v' ws ∧ w'.grownBy w'' none) := fun w' hg => writes_any w' u ws (hu.grown hg) hw
  have HC : Hid (∀ (w' : World) (x y : Value), TensIs w' x l → WritesIs w' y ws → Calls Try.prog 21 #[x, y] w' fun e w'' => ∃ f, e = .returned (.tuple #[f, .int .i64 (appliedE l ws)]) ∧ TensIs w'' f (appliedF l ws) ∧ w'.grownBy w'' none) := fun w' x y h1 h2 => hC w' x y l ws h1 h2 hl hw
  have HD : Hid (∀ w', w.grownBy w' none → Calls Try.prog 22 #[v, u] w' fun e w'' => ∃ f, e = .returned (.tuple #[f, .int .i64 (appliedE l ws)]) ∧ TensIs w'' f (appliedF l ws) ∧ w'.grownBy w'' none) := fun w' hg => applied_any w' v u l ws (hv.grown hg) (hu.grown hg)
  have hfit := applied_fits l ws
  have ST : Hid (∀ w' x y, TensIs w' x (appliedF l ws) → TensIs w' y (appliedF l ws) → Calls Try.prog 23 #[x, y] w' fun e w'' => e = .returned (.bool true) ∧ w'.grownBy w'' none) := fun w' x y h1 h2 => sameTenants_same w' x y _ h1 h2 hfit
  have SL : Hid (∀ w' x, w.grownBy w' none → TensIs w' x l → Calls Try.prog 23 #[x, v] w' fun e w'' => e = .returned (.bool true) ∧ w'.grownBy w'' none) := fun w' x hg h1 => sameTenants_same w' x v _ h1 (hv.grown hg) hl
  have SW : Hid (∀ w' x, w.grownBy w' none → WritesIs w' x ws → Calls Try.prog 24 #[x, u] w' fun e w'' => e = .returned (.bool true) ∧ w'.grownBy w'' none) := fun w' x hg h1 => sameWrites_same w' x u _ h1 (hu.grown hg) hw
  generalize appliedF l ws = AF at *
  generalize appliedE l ws = AE at *
  clear hC hv hu hl hw hfit
  go_enter Try.func7, Try.ntmps7
  go_wp2_with fail
  refine TE.out.mono ?_
  rintro e w1 ⟨v1, rfl, ho1, hg1⟩
  have HL1 : Hid (TensIs w1 v1 l) := ho1.list
  clear ho1 TE
  go_wp2_with fail
  refine (WE.out _ hg1).mono ?_
  rintro e w2 ⟨v2, rfl, ho2, hg2⟩
  have HL2 : Hid (WritesIs w2 v2 ws) := ho2.list
  have hg02 := grown_trans hg1 hg2
  clear ho2 WE
  go_wp2_with fail
  refine (HC.out _ _ _ (HL1.out.grown hg2) HL2.out).mono ?_
  rintro e w3 ⟨x, rfl, hx, hg3⟩
  have hg03 := grown_trans hg02 hg3
  have HX : Hid (TensIs w3 x AF) := hx
  clear hx HC
  go_wp2_with fail
  refine (HD.out _ hg03).mono ?_
  rintro e w4 ⟨y, rfl, hy, hg4⟩
  have hg04 := grown_trans hg03 hg4
  have T1 : Hid (Calls Try.prog 23 #[x, y] w4 fun e w'' => e = .returned (.bool true) ∧ w4.grownBy w'' none) := ST.out _ _ _ (HX.out.grown hg4) hy
  have hEE : (AE == AE) = true := by simp
  have hg14 := grown_trans hg2 (grown_trans hg3 hg4)
  have hg24 := grown_trans hg3 hg4
  clear hy HX ST HD
  go_wp2_with fail
  refine T1.out.mono ?_
  rintro e w5 ⟨rfl, hg5⟩
  go_wp2_with fail
  refine (SL.out _ _ (grown_trans hg04 hg5) (HL1.out.grown (grown_trans hg14 hg5))).mono ?_
  rintro e w6 ⟨rfl, hg6⟩
  go_wp2_with fail
  refine (SW.out _ _ (grown_trans (grown_trans hg04 hg5) hg6) (HL2.out.grown (grown_trans (grown_trans hg24 hg5) hg6))).mono ?_
  rintro e w7 ⟨rfl, hg7⟩
  go_wp2
  go_ret
  exact ⟨rfl, grown_trans (grown_trans (grown_trans hg04 hg5) hg6) hg7⟩
end Go.Proofs.Ytkkcjnhfbblgiaa
