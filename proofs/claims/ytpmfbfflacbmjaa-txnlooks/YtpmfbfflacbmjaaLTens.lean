/-
  The walks of canopylaw's tenants and sameTenants.
-/
import Derived.Test.YtpmfbfflacbmjaaPart15
namespace Go.Proofs.Ytpmfbfflacbmjaa
open Go.RowKit
set_option maxRecDepth 100000 in
theorem tenants_any (w : World) (v : Value) (l : FL) (hv : TensIs w v l) (hl : FitsT l) :
    Calls Try.prog 20 #[v] w fun e w' => ∃ v', e = .returned v' ∧ OwnT w.heap.size w' v' l ∧ w.grownBy w' none := by
  have FC : Hid (Calls Try.prog 51 #[v] w fun e w' => ∃ v', e = .returned v' ∧ OwnT w.heap.size w' v' l ∧ w.grownBy w' none) := forestCopy_any w v l hv hl
  clear hv hl
  go_enter Try.func20, Try.ntmps20
  go_wp2_with fail
  refine FC.out.mono ?_
  rintro e w1 ⟨v1, rfl, h1, hg1⟩
  go_wp2
  go_ret
  exact ⟨_, rfl, h1, hg1⟩
end Go.Proofs.Ytpmfbfflacbmjaa
