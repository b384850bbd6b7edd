/-
  The walk of canopykeep.key: what comes is the call's own.
-/
import Derived.Test.YtghjikifflpeiabDoorSome
import Derived.Test.YtghjikifflpeiabDoorKeys
namespace Go.Proofs.YtghjikifflpeiabDoor
open Go.RowKit
theorem keyO_any (w : World) (v : Value) (bs : List UInt8) (hv : SliceIs w v bs) (hl : bs.length ≤ maxLen) :
    Calls Tryd.prog 20 #[v] w fun e w' => ∃ v', e = .returned v' ∧ Own w.heap.size w' v' (keyF bs) ∧ w.grownBy w' none := by
  obtain ⟨a, cap, rfl, hc, hrest⟩ := hv
  have hv : SliceIs w (.slice a bs.length cap) bs := ⟨a, cap, rfl, hc, hrest⟩
  clear hrest
  by_cases h0 : bs.length = 0
  · rw [keyF, if_pos h0]
    have i0 : (bs.length : Int) = 0 := by omega
    go_enter Tryd.func20, Tryd.ntmps20
    go_wp2
    go_ret
    exact ⟨_, rfl, own_new w.heap.size w [0] (Nat.le_refl _) (by unfold maxLen; simp), World.grownBy_alloc _ _ _⟩
  · rw [keyF, if_neg h0]
    have i0 : ¬ (bs.length : Int) = 0 := by omega
    go_enter Tryd.func20, Tryd.ntmps20
    go_wp2_with fail
    refine (some_any _ _ _ 16 (by omega) hv hl).mono ?_
    rintro e w1 ⟨v1, rfl, ho1, hg1⟩
    go_wp2
    go_ret
    exact ⟨v1, rfl, ho1, hg1⟩
end Go.Proofs.YtghjikifflpeiabDoor
