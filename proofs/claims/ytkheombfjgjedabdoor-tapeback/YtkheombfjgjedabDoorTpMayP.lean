/-
  tape.checkTape, as it landed.
-/
import Derived.Test.YtkheombfjgjedabDoorPart4
namespace Go.Proofs.YtkheombfjgjedabDoor
open Go.RowKit
set_option maxRecDepth 100000 in
set_option maxHeartbeats 1000000 in
theorem checkTape_any (w : World) (v : Value) (t : Tap) (hv : TapeIs w v t) :
    Calls Tryd.prog 15 #[v] w fun e w' => e = .returned (.int .i64 (if mayT t = true then 0 else 6)) ∧ w.grownBy w' none := by
  obtain ⟨a, cap, rfl⟩ := hv.agg
  have hm := mayT_iff t
  clear hv
  by_cases c1 : (t.data.length : Int) > 200000
  · rw [if_neg (by rw [hm]; omega)]
    clear hm
    go_enter Tryd.func15, Tryd.ntmps15
    go_wp2
    go_ret
    exact ⟨rfl, World.grownBy_alloc _ _ _⟩
  · by_cases c2 : t.synced < 0
    · rw [if_neg (by rw [hm]; omega)]
      clear hm
      go_enter Tryd.func15, Tryd.ntmps15
      go_wp2
      go_ret
      exact ⟨rfl, World.grownBy_alloc _ _ _⟩
    · by_cases c3 : t.synced > (t.data.length : Int)
      · rw [if_neg (by rw [hm]; omega)]
        clear hm
        go_enter Tryd.func15, Tryd.ntmps15
        go_wp2
        go_ret
        exact ⟨rfl, World.grownBy_alloc _ _ _⟩
      · rw [if_pos (by rw [hm]; omega)]
        clear hm
        go_enter Tryd.func15, Tryd.ntmps15
        go_wp2
        go_ret
        exact ⟨rfl, World.grownBy_alloc _ _ _⟩
end Go.Proofs.YtkheombfjgjedabDoor
