/-
  The walk of canopylaw.WireChecks, over what the code must keep.
-/
import Derived.Test.YtghjikifflpeiaaDoorRqCk
import Derived.Test.YtghjikifflpeiaaDoorRRq1
import Derived.Test.YtghjikifflpeiaaDoorLReq
namespace Go.Proofs.YtghjikifflpeiaaDoor
open Go.RowKit
set_option maxRecDepth 100000 in
set_option maxHeartbeats 2000000 in
theorem wireChecks_walk (hC : RqCheckOK) (w : World) (v : Value) (r : Rq) (hT : PrtT w) (hv : RqIs w v r) (hf : RqFits r) :
    Calls Tryd.prog 3 #[v] w fun e w' => e = .returned (.bool true) ∧ w.grownBy w' none := by
  obtain ⟨n1, n2, k1, k2, l1, l2, v1, v2, rfl⟩ := hv.agg
  obtain ⟨W0, HW0, hg0, B0⟩ := alloc_namedR w (.cells #[.int .i64 r.kind, .slice n1 r.name.length n2, .slice k1 r.key.length k2, .slice l1 r.last.length l2, .slice v1 r.value.length v2] 24)
  obtain ⟨⟨c0, c1, c2, c3, c4⟩, hfz, _⟩ := five_room (grown_refl W0 none) B0.out
  clear hfz
  have HV : Hid (RqIs W0 (.agg #[.int .i64 r.kind, .slice n1 r.name.length n2, .slice k1 r.key.length k2, .slice l1 r.last.length l2, .slice v1 r.value.length v2]) r) := hv.grown hg0
  have HT : Hid (PrtT W0) := hT.grown hg0
  have RQ : Hid (Calls Tryd.prog 10 #[.agg #[.int .i64 r.kind, .slice n1 r.name.length n2, .slice k1 r.key.length k2, .slice l1 r.last.length l2, .slice v1 r.value.length v2]] W0 fun e w' => ∃ x, e = .returned x ∧ RqIs w' x r ∧ W0.grownBy w' none) := requests_any W0 _ r HV.out hf
  have CK : Hid (∀ w' u, W0.grownBy w' none → RqIs w' u r → Calls Tryd.prog 9 #[u] w' fun e w'' => e = .returned (.int .i64 (reqE r)) ∧ w'.grownBy w'' none) := fun w' u hg h => hC w' u r (HT.out.grown hg) h hf
  have RF : Hid (∀ w', W0.grownBy w' none → Calls Tryd.prog 11 #[.agg #[.int .i64 r.kind, .slice n1 r.name.length n2, .slice k1 r.key.length k2, .slice l1 r.last.length l2, .slice v1 r.value.length v2]] w' fun e w'' => e = .returned (.int .i64 (reqE r)) ∧ w'.grownBy w'' none) := fun w' hg => requestFault_any w' _ r (HV.out.grown hg) hf
  generalize reqE r = z at *
  have hzz : (z == z) = true := by simp
  clear hv hf hT
  generalize r.kind = K at *
  generalize r.name.length = x0 at *
  generalize r.key.length = x1 at *
  generalize r.last.length = x2 at *
  generalize r.value.length = x3 at *
  go_enter Tryd.func3, Tryd.ntmps3
  go_upto_region 1 with fail
  rw [← HW0.out]
  obtain ⟨IB, hIB⟩ : ∃ IB, IB = w.heap.size := ⟨_, rfl⟩
  rw [← hIB] at B0 c0 c1 c2 c3 c4 ⊢
  clear hIB
  go_wp2_with fail
  refine RQ.out.mono ?_
  rintro e w1 ⟨x, rfl, h1, hg1⟩
  have HX : Hid (RqIs w1 x r) := h1
  obtain ⟨a1, a2, b1, b2, d1, d2, e1, e2, rfl⟩ := h1.agg
  clear h1 c0 c1 c2 c3 c4
  go_wp2_with fail
  refine (CK.out _ _ hg1 HX.out).mono ?_
  rintro e w2 ⟨rfl, hg2⟩
  have hg02 := grown_trans hg1 hg2
  obtain ⟨⟨c0, c1, c2, c3, c4⟩, hfz, _⟩ := five_room hg02 B0.out
  clear hfz
  go_wp2_with fail
  refine (RF.out _ hg02).mono ?_
  rintro e w3 ⟨rfl, hg3⟩
  go_wp2
  go_ret
  exact ⟨rfl, grown_trans hg0 (grown_trans hg02 hg3)⟩
end Go.Proofs.YtghjikifflpeiaaDoor
