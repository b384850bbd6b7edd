/-
  canopylaw.sameRequest, at two that are the same.
-/
import Derived.Test.YtghjikifflpeiaaDoorRqBox
import Derived.Test.YtghjikifflpeiaaDoorLSame
import Derived.Deep.RegionHeld3
namespace Go.Proofs.YtghjikifflpeiaaDoor
open Go.RowKit
set_option maxRecDepth 100000 in
set_option maxHeartbeats 4000000 in
theorem sameRequest_same (w : World) (v u : Value) (r : Rq) (hv : RqIs w v r) (hu : RqIs w u r) :
    Calls Tryd.prog 18 #[v, u] w fun e w' => e = .returned (.bool true) ∧ w.grownBy w' none := by
  obtain ⟨n1, n2, k1, k2, l1, l2, v1, v2, rfl⟩ := hv.agg
  obtain ⟨a1, a2, b1, b2, c1, c2, d1, d2, rfl⟩ := hu.agg
  obtain ⟨_, S0, S1, S2, S3⟩ := hv.parts
  obtain ⟨_, T0, T1, T2, T3⟩ := hu.parts
  obtain ⟨W1, HW1, hg1, B1⟩ := alloc_namedR w (.cells #[.int .i64 r.kind, .slice n1 r.name.length n2, .slice k1 r.key.length k2, .slice l1 r.last.length l2, .slice v1 r.value.length v2] 24)
  obtain ⟨W2, HW2, hg2, B2⟩ := alloc_namedR W1 (.cells #[.int .i64 r.kind, .slice a1 r.name.length a2, .slice b1 r.key.length b2, .slice c1 r.last.length c2, .slice d1 r.value.length d2] 24)
  have hg := grown_trans hg1 hg2
  have hsz : W1.heap.size = w.heap.size + 1 := by rw [HW1.out]; simp
  rw [hsz] at B2
  obtain ⟨⟨p0, p1, p2, p3, p4⟩, hfz, _⟩ := five_room hg2 B1.out
  clear hfz
  obtain ⟨⟨q0, q1, q2, q3, q4⟩, hfz, _⟩ := five_room (grown_refl W2 none) B2.out
  clear hfz
  have Q0 : Hid (Calls Tryd.prog 14 #[.slice n1 r.name.length n2, .slice a1 r.name.length a2] W2 fun e w' => e = .returned (.bool true) ∧ w' = W2) := by
    have := sameBytes_any W2 _ _ _ _ (S0.grown hg) (T0.grown hg)
    rw [decide_eq_true rfl] at this
    exact this
  have Q1 : Hid (Calls Tryd.prog 14 #[.slice k1 r.key.length k2, .slice b1 r.key.length b2] W2 fun e w' => e = .returned (.bool true) ∧ w' = W2) := by
    have := sameBytes_any W2 _ _ _ _ (S1.grown hg) (T1.grown hg)
    rw [decide_eq_true rfl] at this
    exact this
  have Q2 : Hid (Calls Tryd.prog 14 #[.slice l1 r.last.length l2, .slice c1 r.last.length c2] W2 fun e w' => e = .returned (.bool true) ∧ w' = W2) := by
    have := sameBytes_any W2 _ _ _ _ (S2.grown hg) (T2.grown hg)
    rw [decide_eq_true rfl] at this
    exact this
  have Q3 : Hid (Calls Tryd.prog 14 #[.slice v1 r.value.length v2, .slice d1 r.value.length d2] W2 fun e w' => e = .returned (.bool true) ∧ w' = W2) := by
    have := sameBytes_any W2 _ _ _ _ (S3.grown hg) (T3.grown hg)
    rw [decide_eq_true rfl] at this
    exact this
  have HX : Hid (W2 = (w.alloc (.cells #[.int .i64 r.kind, .slice n1 r.name.length n2, .slice k1 r.key.length k2, .slice l1 r.last.length l2, .slice v1 r.value.length v2] 24)).alloc (.cells #[.int .i64 r.kind, .slice a1 r.name.length a2, .slice b1 r.key.length b2, .slice c1 r.last.length c2, .slice d1 r.value.length d2] 24)) := by show _ = _; rw [HW2.out, HW1.out]
  have hkk : (r.kind == r.kind) = true := by simp
  clear hv hu S0 S1 S2 S3 T0 T1 T2 T3 hsz B1 B2 HW1 HW2
  generalize r.kind = K at *
  generalize r.name.length = x0 at *
  generalize r.key.length = x1 at *
  generalize r.last.length = x2 at *
  generalize r.value.length = x3 at *
  go_enter Tryd.func18, Tryd.ntmps18
  go_upto_region 1 with fail
  rw [← HX.out]
  go_wp2_with fail
  refine Q0.out.mono ?_
  rintro e w1 ⟨rfl, hw⟩
  rw [hw]
  clear hw
  go_wp2_with fail
  refine Q1.out.mono ?_
  rintro e w1 ⟨rfl, hw⟩
  rw [hw]
  clear hw
  go_wp2_with fail
  refine Q2.out.mono ?_
  rintro e w1 ⟨rfl, hw⟩
  rw [hw]
  clear hw
  go_wp2_with fail
  refine Q3.out.mono ?_
  rintro e w1 ⟨rfl, hw⟩
  rw [hw]
  clear hw
  go_wp2
  go_ret
  exact ⟨rfl, hg⟩
end Go.Proofs.YtghjikifflpeiaaDoor
