/-
  The walk of canopylaw.LinesShows, over what the code must keep.
-/
import Derived.Test.YtpefggkhjocanaaDoorLnSh
import Derived.Test.YtpefggkhjocanaaDoorRShown
import Derived.Test.YtpefggkhjocanaaDoorLActs
import Derived.Test.YtpefggkhjocanaaDoorLSameA
namespace Go.Proofs.YtpefggkhjocanaaDoor
open Go.RowKit
set_option maxRecDepth 100000 in
set_option maxHeartbeats 2000000 in
theorem linesShows_walk (hC : LnShowOK) (w : World) (hWT : WrdT w) (v : Value) (l : List Ac) (hv : ActsIs w v l) (hf : FitsA l) :
    Calls Tryd.prog 3 #[v] w fun e w' => e = .returned (.bool true) ∧ w.grownBy w' none := by
  obtain ⟨a, cap, rfl⟩ := hv.shape
  have AC : Hid (Calls Tryd.prog 8 #[.slice a l.length cap] w fun e w' => ∃ v', e = .returned v' ∧ OwnA w.heap.size w' v' l ∧ w.grownBy w' none) := acts_any w _ l hv hf
  have SH : Hid (∀ w' v', w.grownBy w' none → ActsIs w' v' l → Calls Tryd.prog 9 #[v'] w' fun e w'' => e = .returned (.tuple #[.string (textOf (showT l)), .int .i64 (showI l : Int), .int .i64 (showE l)]) ∧ w'.grownBy w'' none) := fun w' v' hg h => hC w' v' l (hWT.grown hg) h hf
  have RS : Hid (∀ w', w.grownBy w' none → Calls Tryd.prog 10 #[.slice a l.length cap] w' fun e w'' => e = .returned (.tuple #[.string (textOf (showT l)), .int .i64 (showI l : Int), .int .i64 (showE l)]) ∧ w'.grownBy w'' none) := fun w' h => actsShown_any w' _ l (hv.grown h) hf
  have hmany := hf.many
  have SA : Hid (∀ w' v', ActsIs w' v' l → w.grownBy w' none → Calls Tryd.prog 11 #[v', .slice a l.length cap] w' fun e w'' => e = .returned (.bool true) ∧ w'.grownBy w'' none) := fun w' v' h hg => sameActs_same w' v' _ l h (hv.grown hg) (by omega)
  generalize textOf (showT l) = S at *
  generalize showI l = i at *
  generalize showE l = z at *
  have hzz : (z == z) = true := by simp
  clear hv hf hC hWT
  go_enter Tryd.func3, Tryd.ntmps3
  go_wp2_with fail
  refine AC.out.mono ?_
  rintro e w1 ⟨v1, rfl, ho1, hg1⟩
  have HL : Hid (ActsIs w1 v1 l) := ho1.list
  clear ho1
  go_wp2_with fail
  refine (SH.out _ _ hg1 HL.out).mono ?_
  rintro e w2 ⟨rfl, hg2⟩
  have hg02 := grown_trans hg1 hg2
  go_wp2_with fail
  refine (RS.out _ hg02).mono ?_
  rintro e w3 ⟨rfl, hg3⟩
  have hg03 := grown_trans hg02 hg3
  have HL3 : Hid (ActsIs w3 v1 l) := HL.out.grown (grown_trans hg2 hg3)
  go_wp2_with fail
  refine (SA.out _ _ HL3.out hg03).mono ?_
  rintro e w4 ⟨rfl, hg4⟩
  go_wp2
  go_ret
  exact ⟨rfl, grown_trans hg03 hg4⟩
end Go.Proofs.YtpefggkhjocanaaDoor
