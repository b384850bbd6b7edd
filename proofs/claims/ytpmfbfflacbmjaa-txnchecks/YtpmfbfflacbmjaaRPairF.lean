/-
  The walk of the document's answer: pairFault.
-/
import Derived.Test.YtpmfbfflacbmjaaPairM0
import Derived.Test.YtpmfbfflacbmjaaRKeyF
namespace Go.Proofs.Ytpmfbfflacbmjaa
open Go.RowKit
theorem rpairFault_any (w : World) (ak av : Option Addr) (p : Pr) (ck cv : Nat) :
    Calls Try.prog 72 #[.agg #[.slice ak p.1.length ck, .slice av p.2.length cv]] w fun e w' => e = .returned (.int .i64 (pairFaultF p)) ∧ w.grownBy w' none := by
  by_cases h : 32 < p.2.length
  · rw [pairFaultF, if_pos h]
    have t1 : (p.2.length : Int) > 32 := by omega
    go_enter Try.func72, Try.ntmps72
    go_wp2
    go_ret
    exact ⟨rfl, World.grownBy_alloc _ _ _⟩
  · rw [pairFaultF, if_neg h]
    have t1 : ¬ (p.2.length : Int) > 32 := by omega
    go_enter Try.func72, Try.ntmps72
    go_wp2_with fail
    refine (keyFault_any _ _ _ _).mono ?_
    rintro e w1 ⟨rfl, rfl⟩
    go_wp2
    go_ret
    exact ⟨rfl, World.grownBy_alloc _ _ _⟩
end Go.Proofs.Ytpmfbfflacbmjaa
