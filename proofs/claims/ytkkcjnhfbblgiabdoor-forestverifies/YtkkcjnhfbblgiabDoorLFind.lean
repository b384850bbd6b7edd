/-
  The walk of canopylaw.sameFinding.
-/
import Derived.Test.YtkkcjnhfbblgiabDoorPairMem
import Derived.Test.YtkkcjnhfbblgiabDoorPart14
namespace Go.Proofs.YtkkcjnhfbblgiabDoor
open Go.RowKit
set_option maxRecDepth 100000 in
set_option maxHeartbeats 1000000 in
theorem sameFinding_any (w : World) (f g : Bool) (v u : Value) (a b : List UInt8) (hv : SliceIs w v a) (hu : SliceIs w u b) :
    Calls Tryd.prog 15 #[.agg #[.bool f, v], .agg #[.bool g, u]] w fun e w' => e = .returned (.bool (f == g && decide (a = b))) ∧ w.grownBy w' none := by
  obtain ⟨W0, hW0⟩ : ∃ W0 : World, W0 = (w.alloc (.cells #[.bool f, v] 38)).alloc (.cells #[.bool g, u] 38) := ⟨_, rfl⟩
  have hgW : w.grownBy W0 none := by rw [hW0]; exact grown_alloc (grown_alloc (grown_refl _ _) _) _
  have S1 : Hid (SliceIs W0 v a) := hv.grown hgW
  have R1 : Hid (SliceIs W0 u b) := hu.grown hgW
  have HW0 : Hid (W0 = (w.alloc (.cells #[.bool f, v] 38)).alloc (.cells #[.bool g, u] 38)) := hW0
  have c1 : W0.cell? ⟨w.heap.size, 1, none⟩ = some v := by rw [hW0]; simp
  have c2 : W0.cell? ⟨w.heap.size + 1, 1, none⟩ = some u := by rw [hW0]; simp
  clear hv hu hW0
  go_enter Tryd.func15, Tryd.ntmps15
  cases hb : f == g with
  | true =>
    go_wp2_with fail
    rw [← HW0.out]
    refine (sameBytes_any _ _ _ _ _ S1.out R1.out).mono ?_
    rintro e w1 ⟨rfl, rfl⟩
    go_wp2
    go_ret
    exact ⟨by simp, hgW⟩
  | false =>
    go_wp2_with fail
    rw [← HW0.out]
    go_wp2
    go_ret
    exact ⟨by simp, hgW⟩
end Go.Proofs.YtkkcjnhfbblgiabDoor
