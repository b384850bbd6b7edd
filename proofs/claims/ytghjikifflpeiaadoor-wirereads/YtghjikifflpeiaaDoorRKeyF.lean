/-
  The walks of the document's answer to P2.1: In, KeyFault.
-/
import Derived.Test.YtghjikifflpeiaaDoorBase
import Derived.Test.YtghjikifflpeiaaDoorKeys
namespace Go.Proofs.YtghjikifflpeiaaDoor
open Go.RowKit

theorem in_any (n lo hi : Int) (w : World) :
    Calls Tryd.prog 32 #[.int .i64 n, .int .i64 lo, .int .i64 hi] w fun e w' => e = .returned (.bool (decide (lo ≤ n ∧ n ≤ hi))) ∧ w' = w := by
  by_cases h1 : lo ≤ n
  · by_cases h2 : n ≤ hi
    · rw [decide_eq_true ⟨h1, h2⟩]
      go_enter Tryd.func32, Tryd.ntmps32
      go_wp2
      go_ret
      exact ⟨rfl, rfl⟩
    · rw [decide_eq_false (fun h => h2 h.2)]
      have h2' : hi < n := by omega
      go_enter Tryd.func32, Tryd.ntmps32
      go_wp2
      go_ret
      exact ⟨rfl, rfl⟩
  · rw [decide_eq_false (fun h => h1 h.1)]
    have h1' : n < lo := by omega
    go_enter Tryd.func32, Tryd.ntmps32
    go_wp2
    go_ret
    exact ⟨rfl, rfl⟩
theorem keyFault_any (w : World) (a : Option Addr) (n cap : Nat) :
    Calls Tryd.prog 35 #[.slice a n cap] w fun e w' => e = .returned (.int .i64 (keyFaultF n)) ∧ w' = w := by
  by_cases h : 1 ≤ n ∧ n ≤ 16
  · rw [keyFaultF, if_pos h]
    go_enter Tryd.func35, Tryd.ntmps35
    go_wp2_with fail
    refine (in_any _ _ _ _).mono ?_
    rintro e w1 ⟨rfl, rfl⟩
    rw [decide_eq_true (show (1 : Int) ≤ (n : Int) ∧ (n : Int) ≤ 16 by omega)]
    go_wp2
    go_ret
    exact ⟨rfl, rfl⟩
  · rw [keyFaultF, if_neg h]
    go_enter Tryd.func35, Tryd.ntmps35
    go_wp2_with fail
    refine (in_any _ _ _ _).mono ?_
    rintro e w1 ⟨rfl, rfl⟩
    rw [decide_eq_false (show ¬ ((1 : Int) ≤ (n : Int) ∧ (n : Int) ≤ 16) by omega)]
    go_wp2
    go_ret
    exact ⟨rfl, rfl⟩
end Go.Proofs.YtghjikifflpeiaaDoor
