/-
  The walk of canopylaw.TreeRoots, over what the code must keep.
-/
import Derived.Test.YtdpoickggdgddaaDoorTCRoot
import Derived.Test.YtdpoickggdgddaaDoorRRootOf
import Derived.Test.YtdpoickggdgddaaDoorLPairs
namespace Go.Proofs.YtdpoickggdgddaaDoor
open Go.RowKit
set_option maxRecDepth 100000 in
set_option maxHeartbeats 1000000 in
theorem treeRoots_walk (hC : TRootOK) (w : World) (v : Value) (l : PL) (hv : PairsIs w v l) (hl : Fits l) (ht : Tabs w) :
    Calls Tryd.prog 3 #[v] w fun e w' => e = .returned (.bool true) ∧ w.grownBy w' none := by
  have P1 : Hid (Calls Tryd.prog 4 #[v] w fun e w' => ∃ v', e = .returned v' ∧ OwnP w.heap.size w' v' l ∧ w.grownBy w' none) := pairs_any w v l hv hl.many hl.each
  have HC : Hid (∀ w' v', w.grownBy w' none → PairsIs w' v' l → Calls Tryd.prog 5 #[v'] w' fun e w'' => ∃ x, e = .returned (.tuple #[x, .int .i64 (pairsFaultF l)]) ∧ SliceIs w'' x (rootF l) ∧ w'.grownBy w'' none) := fun w' v' hg h => hC w' v' l h hl (ht.grownNone hg)
  have HR : Hid (∀ w', w.grownBy w' none → Calls Tryd.prog 6 #[v] w' fun e w'' => ∃ x, e = .returned (.tuple #[x, .int .i64 (pairsFaultF l)]) ∧ SliceIs w'' x (rootF l) ∧ w'.grownBy w'' none) := fun w' hg => RootOf_any w' v l (hv.grown hg)
  have HS : Hid (∀ w' v', w.grownBy w' none → PairsIs w' v' l → Calls Tryd.prog 8 #[v', v] w' fun e w'' => e = .returned (.bool true) ∧ w'.grownBy w'' none) := fun w' v' hg h => by
    have := samePairs_any w' v' v _ _ h (hv.grown hg) hl.len
    rw [decide_eq_true rfl] at this
    exact this
  generalize rootF l = R at *
  generalize pairsFaultF l = E at *
  clear hC hv ht
  go_enter Tryd.func3, Tryd.ntmps3
  go_wp2_with fail
  refine P1.out.mono ?_
  rintro e w1 ⟨v1, rfl, ho1, hg1⟩
  go_wp2_with fail
  refine (HC.out _ _ hg1 ho1.list).mono ?_
  rintro e w2 ⟨x, rfl, hx, hg2⟩
  have hg12 := grown_trans hg1 hg2
  go_wp2_with fail
  refine (HR.out _ hg12).mono ?_
  rintro e w3 ⟨y, rfl, hy, hg3⟩
  have hg13 := grown_trans hg12 hg3
  have SB : Hid (Calls Tryd.prog 7 #[x, y] w3 fun e w' => e = .returned (.bool true) ∧ w' = w3) := by
    have := sameBytes_any w3 x y R R (hx.grown hg3) hy
    rw [decide_eq_true rfl] at this
    exact this
  have L1 : Hid (PairsIs w3 v1 l) := ho1.list.grown (grown_trans hg2 hg3)
  clear hx hy ho1
  go_wp2_with fail
  refine SB.out.mono ?_
  rintro e w4 ⟨rfl, rfl⟩
  go_wp2_with fail
  refine (HS.out _ _ hg13 L1.out).mono ?_
  rintro e w5 ⟨rfl, hg5⟩
  go_wp2
  go_ret
  exact ⟨rfl, grown_trans hg13 hg5⟩
end Go.Proofs.YtdpoickggdgddaaDoor
