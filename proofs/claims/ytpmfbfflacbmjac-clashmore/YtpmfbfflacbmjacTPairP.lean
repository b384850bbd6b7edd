/-
  tree.checkPair and tree.checkWith, as they landed.
-/
import Derived.Test.YtpmfbfflacbmjacCheckP
import Derived.Test.YtpmfbfflacbmjacPairMem
import Derived.Test.YtpmfbfflacbmjacPart1
namespace Go.Proofs.Ytpmfbfflacbmjac
open Go.RowKit
theorem checkPair_any (w : World) (ak av : Option Addr) (p : Pr) (ck cv : Nat) :
    Calls Try.prog 74 #[.agg #[.slice ak p.1.length ck, .slice av p.2.length cv]] w fun e w' => e = .returned (.int .i64 (pairFaultF p)) ∧ w.grownBy w' none := by
  by_cases h : 32 < p.2.length
  · rw [pairFaultF, if_pos h]
    have t1 : (p.2.length : Int) > 32 := by omega
    go_enter Try.func74, Try.ntmps74
    go_wp2
    go_ret
    exact ⟨rfl, World.grownBy_alloc _ _ _⟩
  · rw [pairFaultF, if_neg h]
    have t1 : ¬ (p.2.length : Int) > 32 := by omega
    have CK : Hid CheckOK := check_ok
    go_enter Try.func74, Try.ntmps74
    go_wp2_with fail
    refine (CK.out _ _ _ _).mono ?_
    rintro e w1 ⟨rfl, hg1⟩
    go_wp2
    go_ret
    exact ⟨rfl, grown_trans (World.grownBy_alloc _ _ _) hg1⟩
end Go.Proofs.Ytpmfbfflacbmjac
