/-
  The walk of canopylaw's sameCommit, where both are the same.
-/
import Derived.Test.YtkheombfjgjedaaPart3
import Derived.Test.YtkheombfjgjedaaLSameW
namespace Go.Proofs.Ytkheombfjgjedaa
open Go.RowKit
set_option maxRecDepth 100000 in
theorem sameCommit_same (w : World) (v u : Value) (c : Cmt) (hv : CommitIs w v c) (hu : CommitIs w u c) (hl : FitsW c.writes) :
    Calls Try.prog 14 #[v, u] w fun e w' => e = .returned (.bool true) ∧ w.grownBy w' none := by
  obtain ⟨a, cap, rfl⟩ := hv.agg
  obtain ⟨a2, cap2, rfl⟩ := hu.agg
  obtain ⟨W0, hW0⟩ : ∃ W0 : World, W0 = (w.alloc (.cells #[.int .i64 c.turn, .slice a c.writes.length cap] 24)).alloc (.cells #[.int .i64 c.turn, .slice a2 c.writes.length cap2] 24) := ⟨_, rfl⟩
  have HW0 : Hid (W0 = (w.alloc (.cells #[.int .i64 c.turn, .slice a c.writes.length cap] 24)).alloc (.cells #[.int .i64 c.turn, .slice a2 c.writes.length cap2] 24)) := hW0
  have hg0 : w.grownBy W0 none := by rw [hW0]; exact grown_alloc (grown_alloc (grown_refl _ _) _) _
  have c0 : W0.cell? ⟨w.heap.size, 0, none⟩ = some (.int .i64 c.turn) := by rw [hW0]; simp
  have c1 : W0.cell? ⟨w.heap.size, 1, none⟩ = some (.slice a c.writes.length cap) := by rw [hW0]; simp
  have d0 : W0.cell? ⟨w.heap.size + 1, 0, none⟩ = some (.int .i64 c.turn) := by rw [hW0]; simp
  have d1 : W0.cell? ⟨w.heap.size + 1, 1, none⟩ = some (.slice a2 c.writes.length cap2) := by rw [hW0]; simp
  have SW : Hid (Calls Try.prog 31 #[.slice a c.writes.length cap, .slice a2 c.writes.length cap2] W0 fun e w' => e = .returned (.bool true) ∧ W0.grownBy w' none) := sameWrites_same W0 _ _ c.writes (hv.writes.2.grown hg0) (hu.writes.2.grown hg0) hl
  have hEE : (c.turn == c.turn) = true := by simp
  clear hv hu hl hW0
  generalize c.turn = T at *
  generalize c.writes.length = n at *
  go_enter Try.func14, Try.ntmps14
  go_upto_region 1 with fail
  rw [← HW0.out]
  go_wp2_with fail
  refine SW.out.mono ?_
  rintro e w1 ⟨rfl, hg1⟩
  go_wp2
  go_ret
  exact ⟨rfl, grown_trans hg0 hg1⟩
end Go.Proofs.Ytkheombfjgjedaa
