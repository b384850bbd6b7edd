/-
  The walks of canopylaw.ForestNames and ForestChecks, over what the code must keep.
-/
import Derived.Test.YtkkcjnhfbblgiaaFCName
import Derived.Test.YtkkcjnhfbblgiaaFCCheck
import Derived.Test.YtkkcjnhfbblgiaaRForF
import Derived.Test.YtkkcjnhfbblgiaaLTens
import Derived.Test.YtkkcjnhfbblgiaaOctets
namespace Go.Proofs.Ytkkcjnhfbblgiaa
open Go.RowKit
set_option maxRecDepth 100000 in
theorem forestNames_walk (hC : FNameOK) (w : World) (u : Value) (k : List UInt8) (hu : SliceIs w u k) (hk : k.length ≤ 140737488355328) :
    Calls Try.prog 3 #[u] w fun e w' => e = .returned (.bool true) ∧ w.grownBy w' none := by
  have OC : Hid (Calls Try.prog 9 #[u] w fun e w' => ∃ v', e = .returned v' ∧ Own w.heap.size w' v' k ∧ w.grownBy w' none) := octets_any w u k hu hk
  have HC : Hid FNameOK := hC
  obtain ⟨ua, uc, rfl⟩ := hu.shape
  clear hC hu
  go_enter Try.func3, Try.ntmps3
  go_wp2_with fail
  refine OC.out.mono ?_
  rintro e w1 ⟨v1, rfl, ho1, hg1⟩
  obtain ⟨xa, xc, rfl⟩ := ho1.shape
  go_wp2_with fail
  refine (HC.out _ _ _ _).mono ?_
  rintro e w2 ⟨rfl, hg2⟩
  go_wp2_with fail
  refine (nameFault_any _ _ _ _).mono ?_
  rintro e w3 ⟨rfl, rfl⟩
  go_wp2
  go_ret
  exact ⟨by simp, grown_trans hg1 hg2⟩
set_option maxRecDepth 100000 in
theorem forestChecks_walk (hC : FCheckOK) (w : World) (v : Value) (l : FL) (hv : TensIs w v l) (hl : FitsT l) :
    Calls Try.prog 4 #[v] w fun e w' => e = .returned (.bool true) ∧ w.grownBy w' none := by
  have TE : Hid (Calls Try.prog 12 #[v] w fun e w' => ∃ v', e = .returned v' ∧ OwnT w.heap.size w' v' l ∧ w.grownBy w' none) := tenants_any w v l hv hl
  have HC : Hid (∀ (w : World) (v : Value), TensIs w v l → Calls Try.prog 11 #[v] w fun e w' => e = .returned (.int .i64 (forestE l)) ∧ w.grownBy w' none) := fun w v h => hC w v l h hl
  have FF : Hid (∀ w', w.grownBy w' none → Calls Try.prog 13 #[v] w' fun e w'' => e = .returned (.int .i64 (forestE l)) ∧ w'.grownBy w'' none) := fun w' hg => forestFault_any w' v l (hv.grown hg)
  obtain ⟨ua, uc, rfl⟩ := hv.shape
  generalize forestE l = E at *
  clear hC hv hl
  go_enter Try.func4, Try.ntmps4
  go_wp2_with fail
  refine TE.out.mono ?_
  rintro e w1 ⟨v1, rfl, ho1, hg1⟩
  go_wp2_with fail
  refine (HC.out _ _ ho1.list).mono ?_
  rintro e w2 ⟨rfl, hg2⟩
  go_wp2_with fail
  refine (FF.out _ (grown_trans hg1 hg2)).mono ?_
  rintro e w3 ⟨rfl, hg3⟩
  go_wp2
  go_ret
  exact ⟨by simp, grown_trans (grown_trans hg1 hg2) hg3⟩
end Go.Proofs.Ytkkcjnhfbblgiaa
