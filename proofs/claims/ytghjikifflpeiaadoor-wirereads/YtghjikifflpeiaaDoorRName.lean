/-
  The walk of the document's answer to P5.1: NameFault.
-/
import Derived.Test.YtghjikifflpeiaaDoorRKeyF
import Derived.Test.YtghjikifflpeiaaDoorForestF
namespace Go.Proofs.YtghjikifflpeiaaDoor
open Go.RowKit
theorem nameFault_any (w : World) (a : Option Addr) (n cap : Nat) :
    Calls Tryd.prog 34 #[.slice a n cap] w fun e w' => e = .returned (.int .i64 (nameFaultF n)) ∧ w' = w := by
  by_cases h : 1 ≤ n ∧ n ≤ 8
  · rw [nameFaultF, if_pos h]
    go_enter Tryd.func34, Tryd.ntmps34
    go_wp2_with fail
    refine (in_any _ _ _ _).mono ?_
    rintro e w1 ⟨rfl, rfl⟩
    rw [decide_eq_true (show (1 : Int) ≤ (n : Int) ∧ (n : Int) ≤ 8 by omega)]
    go_wp2
    go_ret
    exact ⟨rfl, rfl⟩
  · rw [nameFaultF, if_neg h]
    go_enter Tryd.func34, Tryd.ntmps34
    go_wp2_with fail
    refine (in_any _ _ _ _).mono ?_
    rintro e w1 ⟨rfl, rfl⟩
    rw [decide_eq_false (show ¬ ((1 : Int) ≤ (n : Int) ∧ (n : Int) ≤ 8) by omega)]
    go_wp2
    go_ret
    exact ⟨rfl, rfl⟩
end Go.Proofs.YtghjikifflpeiaaDoor
