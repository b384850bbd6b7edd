/-
  The walk of canopylaw's sameTape, where both are the same.
-/
import Derived.Test.YtkheombfjgjedabDoorPart4
import Derived.Test.YtkheombfjgjedabDoorLSame
namespace Go.Proofs.YtkheombfjgjedabDoor
open Go.RowKit
set_option maxRecDepth 100000 in
theorem sameTape_same (w : World) (v u : Value) (t : Tap) (hv : TapeIs w v t) (hu : TapeIs w u t) :
    Calls Tryd.prog 9 #[v, u] w fun e w' => e = .returned (.bool true) ∧ w.grownBy w' none := by
  obtain ⟨a, cap, rfl⟩ := hv.agg
  obtain ⟨a2, cap2, rfl⟩ := hu.agg
  obtain ⟨W0, hW0⟩ : ∃ W0 : World, W0 = (w.alloc (.cells #[.slice a t.data.length cap, .int .i64 t.synced] 24)).alloc (.cells #[.slice a2 t.data.length cap2, .int .i64 t.synced] 24) := ⟨_, rfl⟩
  have HW0 : Hid (W0 = (w.alloc (.cells #[.slice a t.data.length cap, .int .i64 t.synced] 24)).alloc (.cells #[.slice a2 t.data.length cap2, .int .i64 t.synced] 24)) := hW0
  have hg0 : w.grownBy W0 none := by rw [hW0]; exact grown_alloc (grown_alloc (grown_refl _ _) _) _
  have c0 : W0.cell? ⟨w.heap.size, 0, none⟩ = some (.slice a t.data.length cap) := by rw [hW0]; simp
  have c1 : W0.cell? ⟨w.heap.size, 1, none⟩ = some (.int .i64 t.synced) := by rw [hW0]; simp
  have d0 : W0.cell? ⟨w.heap.size + 1, 0, none⟩ = some (.slice a2 t.data.length cap2) := by rw [hW0]; simp
  have d1 : W0.cell? ⟨w.heap.size + 1, 1, none⟩ = some (.int .i64 t.synced) := by rw [hW0]; simp
  have SB : Hid (Calls Tryd.prog 22 #[.slice a t.data.length cap, .slice a2 t.data.length cap2] W0 fun e w' => e = .returned (.bool true) ∧ w' = W0) := by
    have := sameBytes_any W0 _ _ t.data t.data (hv.data.1.grown hg0) (hu.data.1.grown hg0)
    rw [decide_eq_true rfl] at this
    exact this
  have hEE : (t.synced == t.synced) = true := by simp
  clear hv hu hW0
  generalize t.synced = T at *
  generalize t.data.length = n at *
  go_enter Tryd.func9, Tryd.ntmps9
  go_upto_region 1 with fail
  rw [← HW0.out]
  go_wp2_with fail
  refine SB.out.mono ?_
  rintro e w1 ⟨rfl, rfl⟩
  go_wp2
  go_ret
  exact ⟨rfl, hg0⟩
end Go.Proofs.YtkheombfjgjedabDoor
