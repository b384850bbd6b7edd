/-
  Texts of this proof, joined: RName, RPairF.
-/
import Derived.Test.YtpmfbfflacbmjaaRKeyF
import Derived.Test.YtpmfbfflacbmjaaPart1
import Derived.Test.YtpmfbfflacbmjaaPairM0
/-
  The walk of the document's answer to P5.1: NameFault.
-/
namespace Go.Proofs.Ytpmfbfflacbmjaa
open Go.RowKit
theorem nameFault_any (w : World) (a : Option Addr) (n cap : Nat) :
    Calls Try.prog 53 #[.slice a n cap] w fun e w' => e = .returned (.int .i64 (nameFaultF n)) ∧ w' = w := by
  by_cases h : 1 ≤ n ∧ n ≤ 8
  · rw [nameFaultF, if_pos h]
    go_enter Try.func53, Try.ntmps53
    go_wp2_with fail
    refine (in_any _ _ _ _).mono ?_
    rintro e w1 ⟨rfl, rfl⟩
    rw [decide_eq_true (show (1 : Int) ≤ (n : Int) ∧ (n : Int) ≤ 8 by omega)]
    go_wp2
    go_ret
    exact ⟨rfl, rfl⟩
  · rw [nameFaultF, if_neg h]
    go_enter Try.func53, Try.ntmps53
    go_wp2_with fail
    refine (in_any _ _ _ _).mono ?_
    rintro e w1 ⟨rfl, rfl⟩
    rw [decide_eq_false (show ¬ ((1 : Int) ≤ (n : Int) ∧ (n : Int) ≤ 8) by omega)]
    go_wp2
    go_ret
    exact ⟨rfl, rfl⟩
end Go.Proofs.Ytpmfbfflacbmjaa

/-
  The walk of the document's answer: pairFault.
-/
namespace Go.Proofs.Ytpmfbfflacbmjaa
open Go.RowKit
theorem rpairFault_any (w : World) (ak av : Option Addr) (p : Pr) (ck cv : Nat) :
    Calls Try.prog 72 #[.agg #[.slice ak p.1.length ck, .slice av p.2.length cv]] w fun e w' => e = .returned (.int .i64 (pairFaultF p)) ∧ w.grownBy w' none := by
  by_cases h : 32 < p.2.length
  · rw [pairFaultF, if_pos h]
    have t1 : (p.2.length : Int) > 32 := by omega
    go_enter Try.func72, Try.ntmps72
    go_wp2
    go_ret
    exact ⟨rfl, World.grownBy_alloc _ _ _⟩
  · rw [pairFaultF, if_neg h]
    have t1 : ¬ (p.2.length : Int) > 32 := by omega
    go_enter Try.func72, Try.ntmps72
    go_wp2_with fail
    refine (keyFault_any _ _ _ _).mono ?_
    rintro e w1 ⟨rfl, rfl⟩
    go_wp2
    go_ret
    exact ⟨rfl, World.grownBy_alloc _ _ _⟩
end Go.Proofs.Ytpmfbfflacbmjaa
