/-
  canopylaw.sameRead, at two that are the same.
-/
import Derived.Test.YtghjikifflpeiaaDoorRdM0
import Derived.Test.YtghjikifflpeiaaDoorPlaceM
import Derived.Test.YtghjikifflpeiaaDoorLSame
import Derived.Deep.RegionHeld3
namespace Go.Proofs.YtghjikifflpeiaaDoor
open Go.RowKit
set_option maxRecDepth 100000 in
set_option maxHeartbeats 2000000 in
theorem sameRead_same (w : World) (v u : Value) (r : Rd) (hv : ReadIs w v r) (hu : ReadIs w u r) :
    Calls Tryd.prog 21 #[v, u] w fun e w' => e = .returned (.bool true) ∧ w.grownBy w' none := by
  obtain ⟨na, nc, ka, kc, la, lc, rfl⟩ := hv.agg
  obtain ⟨ma, mc, ja, jc, ha, hc, rfl⟩ := hu.agg
  obtain ⟨v1, v2, _, v3⟩ := hv.parts
  obtain ⟨u1, u2, _, u3⟩ := hu.parts
  obtain ⟨W1, HW1, hg1, B1⟩ := alloc_namedR w (.cells #[.slice na r.name.length nc, .slice ka r.key.length kc, .bool r.wide, .slice la r.last.length lc] 38)
  obtain ⟨W2, HW2, hg2, B2⟩ := alloc_namedR W1 (.cells #[.slice ma r.name.length mc, .slice ja r.key.length jc, .bool r.wide, .slice ha r.last.length hc] 38)
  have hg := grown_trans hg1 hg2
  obtain ⟨⟨a0, a1, a2, a3⟩, _⟩ := quad_room hg2 B1.out
  obtain ⟨⟨b0, b1, b2, b3⟩, _⟩ := quad_room (grown_refl W2 none) B2.out
  have SN : Hid (Calls Tryd.prog 14 #[.slice na r.name.length nc, .slice ma r.name.length mc] W2 fun e w' => e = .returned (.bool true) ∧ w' = W2) := by
    have := sameBytes_any W2 _ _ _ _ (v1.grown hg) (u1.grown hg)
    rw [decide_eq_true rfl] at this
    exact this
  have SK : Hid (Calls Tryd.prog 14 #[.slice ka r.key.length kc, .slice ja r.key.length jc] W2 fun e w' => e = .returned (.bool true) ∧ w' = W2) := by
    have := sameBytes_any W2 _ _ _ _ (v2.grown hg) (u2.grown hg)
    rw [decide_eq_true rfl] at this
    exact this
  have SL : Hid (Calls Tryd.prog 14 #[.slice la r.last.length lc, .slice ha r.last.length hc] W2 fun e w' => e = .returned (.bool true) ∧ w' = W2) := by
    have := sameBytes_any W2 _ _ _ _ (v3.grown hg) (u3.grown hg)
    rw [decide_eq_true rfl] at this
    exact this
  have HX : Hid (W2 = (w.alloc (.cells #[.slice na r.name.length nc, .slice ka r.key.length kc, .bool r.wide, .slice la r.last.length lc] 38)).alloc (.cells #[.slice ma r.name.length mc, .slice ja r.key.length jc, .bool r.wide, .slice ha r.last.length hc] 38)) := by show _ = _; rw [HW2.out, HW1.out]
  have hsz : W1.heap.size = w.heap.size + 1 := by rw [HW1.out]; simp
  rw [hsz] at b0 b1 b2 b3
  have hwd : (r.wide == r.wide) = true := by simp
  clear hv hu v1 v2 v3 u1 u2 u3 hsz B1 B2 HW1 HW2
  generalize r.wide = wd at *
  go_enter Tryd.func21, Tryd.ntmps21
  go_upto_region 1 with fail
  rw [← HX.out]
  go_wp2_with fail
  refine SN.out.mono ?_
  rintro e w1 ⟨rfl, rfl⟩
  go_wp2_with fail
  refine SK.out.mono ?_
  rintro e w1 ⟨rfl, rfl⟩
  go_wp2_with fail
  refine SL.out.mono ?_
  rintro e w1 ⟨rfl, rfl⟩
  go_wp2
  go_ret
  exact ⟨rfl, hg⟩
end Go.Proofs.YtghjikifflpeiaaDoor
