/-
  The walk of the document's answer: pairsAndKey.
-/
import Derived.Test.YtpmfbfflacbmjaaPart16
namespace Go.Proofs.Ytpmfbfflacbmjaa
open Go.RowKit
theorem pairsAndKey_any (w : World) (v : Value) (l : PL) (a : Option Addr) (n cap : Nat) (hv : PairsIs w v l) :
    Calls Try.prog 94 #[v, .slice a n cap] w fun e w' => e = .returned (.int .i64 (if pairsFaultF l = 0 then keyFaultF n else pairsFaultF l)) ∧ w.grownBy w' none := by
  by_cases hz : pairsFaultF l = 0
  · rw [if_pos hz]
    go_enter Try.func94, Try.ntmps94
    go_wp2_with fail
    refine (pairsFault_any _ _ _ hv).mono ?_
    rintro e w1 ⟨rfl, hg1⟩
    rw [hz]
    go_wp2_with fail
    refine (keyFault_any _ _ _ _).mono ?_
    rintro e w2 ⟨rfl, rfl⟩
    go_wp2
    go_ret
    exact ⟨rfl, hg1⟩
  · rw [if_neg hz]
    go_enter Try.func94, Try.ntmps94
    go_wp2_with fail
    refine (pairsFault_any _ _ _ hv).mono ?_
    rintro e w1 ⟨rfl, hg1⟩
    have hz2 : (pairsFaultF l == 0) = false := by simpa using hz
    go_wp2
    go_ret
    exact ⟨rfl, hg1⟩
end Go.Proofs.Ytpmfbfflacbmjaa
