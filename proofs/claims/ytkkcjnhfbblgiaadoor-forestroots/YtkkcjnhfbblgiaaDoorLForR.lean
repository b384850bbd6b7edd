/-
  The walk of canopylaw.ForestRoots, over what the code must keep.
-/
import Derived.Test.YtkkcjnhfbblgiaaDoorRForRt
import Derived.Test.YtkkcjnhfbblgiaaDoorPart4
import Derived.Test.YtkkcjnhfbblgiaaDoorPart9
import Derived.Test.YtkkcjnhfbblgiaaDoorLSame
namespace Go.Proofs.YtkkcjnhfbblgiaaDoor
open Go.RowKit
set_option maxRecDepth 100000 in
set_option maxHeartbeats 1000000 in
theorem forestRoots_walk (hC : FRootOK) (w : World) (v : Value) (l : FL) (hv : TensIs w v l) (hl : FitsT l) (ht : Tabs w) :
    Calls Tryd.prog 3 #[v] w fun e w' => e = .returned (.bool true) ∧ w.grownBy w' none := by
  have TE : Hid (Calls Tryd.prog 4 #[v] w fun e w' => ∃ v', e = .returned v' ∧ OwnT w.heap.size w' v' l ∧ w.grownBy w' none) := tenants_any w v l hv hl
  have HC : Hid (∀ (w' : World) (x : Value), w.grownBy w' none → TensIs w' x l → Calls Tryd.prog 5 #[x] w' fun e w'' => ∃ f, e = .returned (.tuple #[f, .int .i64 (forestE l)]) ∧ SliceIs w'' f (frootF l) ∧ w'.grownBy w'' none) := fun w' x hg h1 => hC w' x l h1 hl (ht.grownNone hg)
  have HD : Hid (∀ w', w.grownBy w' none → Calls Tryd.prog 6 #[v] w' fun e w'' => ∃ f, e = .returned (.tuple #[f, .int .i64 (forestE l)]) ∧ SliceIs w'' f (frootF l) ∧ w'.grownBy w'' none) := fun w' hg => forestRoot_any w' v l (hv.grown hg)
  have SB : Hid (∀ w' x y, SliceIs w' x (frootF l) → SliceIs w' y (frootF l) → Calls Tryd.prog 7 #[x, y] w' fun e w'' => e = .returned (.bool true) ∧ w'' = w') := fun w' x y h1 h2 => by
    have := sameBytes_any w' x y _ _ h1 h2
    rw [decide_eq_true rfl] at this
    exact this
  have SL : Hid (∀ w' x, w.grownBy w' none → TensIs w' x l → Calls Tryd.prog 8 #[x, v] w' fun e w'' => e = .returned (.bool true) ∧ w'.grownBy w'' none) := fun w' x hg h1 => sameTenants_same w' x v _ h1 (hv.grown hg) hl
  generalize frootF l = AF at *
  generalize forestE l = AE at *
  obtain ⟨va, vc, rfl⟩ := hv.shape
  clear hC hv hl ht
  go_enter Tryd.func3, Tryd.ntmps3
  go_wp2_with fail
  refine TE.out.mono ?_
  rintro e w1 ⟨v1, rfl, ho1, hg1⟩
  have HL1 : Hid (TensIs w1 v1 l) := ho1.list
  obtain ⟨a1, c1, rfl⟩ := ho1.shape
  clear ho1 TE
  go_wp2_with fail
  refine (HC.out _ _ hg1 HL1.out).mono ?_
  rintro e w3 ⟨x, rfl, hx, hg3⟩
  have hg03 := grown_trans hg1 hg3
  have HX : Hid (SliceIs w3 x AF) := hx
  obtain ⟨xa, xc, rfl⟩ := hx.shape
  clear hx HC
  go_wp2_with fail
  refine (HD.out _ hg03).mono ?_
  rintro e w4 ⟨y, rfl, hy, hg4⟩
  have hg04 := grown_trans hg03 hg4
  have T1 : Hid (Calls Tryd.prog 7 #[.slice xa AF.length xc, y] w4 fun e w'' => e = .returned (.bool true) ∧ w'' = w4) := SB.out _ _ _ (HX.out.grown hg4) hy
  obtain ⟨ya, yc, rfl⟩ := hy.shape
  have hEE : (AE == AE) = true := by simp
  have hg14 := grown_trans hg3 hg4
  clear hy HX SB HD
  go_wp2_with fail
  refine T1.out.mono ?_
  rintro e w5 ⟨rfl, rfl⟩
  go_wp2_with fail
  refine (SL.out _ _ hg04 (HL1.out.grown hg14)).mono ?_
  rintro e w6 ⟨rfl, hg6⟩
  go_wp2
  go_ret
  exact ⟨rfl, grown_trans hg04 hg6⟩
end Go.Proofs.YtkkcjnhfbblgiaaDoor
