/-
  The walk of bytes.HasPrefix.
-/
import Derived.Test.YtkheombfjgjedabDoorEqB
import Derived.Test.YtkheombfjgjedabDoorPart3
namespace Go.Proofs.YtkheombfjgjedabDoor
open Go.RowKit
set_option maxRecDepth 100000 in
set_option maxHeartbeats 1000000 in
theorem hasPrefix_any (w : World) (v1 v2 : Value) (b1 b2 : List UInt8) (h1 : SliceIs w v1 b1) (h2 : SliceIs w v2 b2) :
    Calls Tryd.prog 29 #[v1, v2] w fun e w' => e = .returned (.bool (decide (b2.length ≤ b1.length ∧ b1.take b2.length = b2))) ∧ w' = w := by
  obtain ⟨a1, k1, rfl⟩ := h1.shape
  obtain ⟨a2, k2, rfl⟩ := h2.shape
  by_cases hl : b2.length ≤ b1.length
  · have hcap := h1.cap.1
    obtain ⟨a3, k3, q1, q2⟩ := bslice_h a1 k1 b1 b2.length hl hcap
    have EQ : Hid (Calls Tryd.prog 45 #[.slice a3 b2.length k3, .slice a2 b2.length k2] w fun e w' => e = .returned (.bool (decide (b1.take b2.length = b2))) ∧ w' = w) := equal_any w _ _ _ _ (q2 w h1) h2
    have i1 : (b1.length : Int) ≥ (b2.length : Int) := by omega
    have q1w := q1 w
    rw [show decide (b2.length ≤ b1.length ∧ b1.take b2.length = b2) = decide (b1.take b2.length = b2) by simp [hl]]
    generalize decide (b1.take b2.length = b2) = Z at *
    clear h1 h2 hcap q1 q2 hl
    go_enter Tryd.func29, Tryd.ntmps29
    go_wp2_with fail
    refine EQ.out.mono ?_
    rintro e w1 ⟨rfl, rfl⟩
    go_wp2
    go_ret
    exact ⟨rfl, rfl⟩
  · have i1 : ¬ (b1.length : Int) ≥ (b2.length : Int) := by omega
    rw [show decide (b2.length ≤ b1.length ∧ b1.take b2.length = b2) = false by simp [hl]]
    clear h1 h2 hl
    go_enter Tryd.func29, Tryd.ntmps29
    go_wp2
    go_ret
    exact ⟨rfl, rfl⟩
end Go.Proofs.YtkheombfjgjedabDoor
