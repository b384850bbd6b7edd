/-
  The walk of canopylaw.WireReads, over what the code must keep.
-/
import Derived.Test.YtghjikifflpeiaaDoorRqRd
import Derived.Test.YtghjikifflpeiaaDoorRRqRd
import Derived.Test.YtghjikifflpeiaaDoorLReq
import Derived.Test.YtghjikifflpeiaaDoorLSameRd
namespace Go.Proofs.YtghjikifflpeiaaDoor
open Go.RowKit
set_option maxRecDepth 100000 in
set_option maxHeartbeats 2000000 in
theorem wireReads_walk (hC : RqReadOK) (w : World) (v : Value) (r : Rq) (hT : PrtT w) (hv : RqIs w v r) (hf : RqFits r) :
    Calls Tryd.prog 6 #[v] w fun e w' => e = .returned (.bool true) ∧ w.grownBy w' none := by
  obtain ⟨n1, n2, k1, k2, l1, l2, v1, v2, rfl⟩ := hv.agg
  obtain ⟨W0, HW0, hg0, B0⟩ := alloc_namedR w (.cells #[.int .i64 r.kind, .slice n1 r.name.length n2, .slice k1 r.key.length k2, .slice l1 r.last.length l2, .slice v1 r.value.length v2] 24)
  obtain ⟨⟨c0, c1, c2, c3, c4⟩, hfz, _⟩ := five_room (grown_refl W0 none) B0.out
  clear hfz
  have HV : Hid (RqIs W0 (.agg #[.int .i64 r.kind, .slice n1 r.name.length n2, .slice k1 r.key.length k2, .slice l1 r.last.length l2, .slice v1 r.value.length v2]) r) := hv.grown hg0
  have HT : Hid (PrtT W0) := hT.grown hg0
  have RQ : Hid (Calls Tryd.prog 10 #[.agg #[.int .i64 r.kind, .slice n1 r.name.length n2, .slice k1 r.key.length k2, .slice l1 r.last.length l2, .slice v1 r.value.length v2]] W0 fun e w' => ∃ x, e = .returned x ∧ RqIs w' x r ∧ W0.grownBy w' none) := requests_any W0 _ r HV.out hf
  have CK : Hid (∀ w' u, W0.grownBy w' none → RqIs w' u r → Calls Tryd.prog 19 #[u] w' fun e w'' => ∃ x, e = .returned (.tuple #[x, .int .i64 (rreadE r)]) ∧ ReadIs w'' x (rreadR r) ∧ w'.grownBy w'' none) := fun w' u hg h => hC w' u r (HT.out.grown hg) h hf
  have RF : Hid (∀ w', W0.grownBy w' none → Calls Tryd.prog 20 #[.agg #[.int .i64 r.kind, .slice n1 r.name.length n2, .slice k1 r.key.length k2, .slice l1 r.last.length l2, .slice v1 r.value.length v2]] w' fun e w'' => ∃ x, e = .returned (.tuple #[x, .int .i64 (rreadE r)]) ∧ ReadIs w'' x (rreadR r) ∧ w'.grownBy w'' none) := fun w' hg => requestRead_any w' _ r (HV.out.grown hg) hf
  generalize rreadE r = z at *
  generalize rreadR r = P at *
  have hzz : (z == z) = true := by simp
  clear hv hf hT
  generalize r.kind = K at *
  generalize r.name.length = x0 at *
  generalize r.key.length = x1 at *
  generalize r.last.length = x2 at *
  generalize r.value.length = x3 at *
  go_enter Tryd.func6, Tryd.ntmps6
  go_upto_region 1 with fail
  rw [← HW0.out]
  obtain ⟨IB, hIB⟩ : ∃ IB, IB = w.heap.size := ⟨_, rfl⟩
  rw [← hIB] at B0 c0 c1 c2 c3 c4 ⊢
  clear hIB
  go_wp2_with fail
  refine RQ.out.mono ?_
  rintro e w1 ⟨x, rfl, h1, hg1⟩
  have HX : Hid (RqIs w1 x r) := h1
  obtain ⟨a1, a2, b1, b2, d1, d2, e1, e2, rfl⟩ := h1.agg
  clear h1 c0 c1 c2 c3 c4
  go_wp2_with fail
  refine (CK.out _ _ hg1 HX.out).mono ?_
  rintro e w2 ⟨y, rfl, h2, hg2⟩
  obtain ⟨p1, p2, p3, p4, p5, p6, rfl⟩ := h2.agg
  obtain ⟨W2, HW2, hgA2, B2⟩ := alloc_namedR w2 (.cells #[.slice p1 P.name.length p2, .slice p3 P.key.length p4, .bool P.wide, .slice p5 P.last.length p6] 38)
  have HY : Hid (ReadIs W2 (.agg #[.slice p1 P.name.length p2, .slice p3 P.key.length p4, .bool P.wide, .slice p5 P.last.length p6]) P) := h2.grown hgA2
  have hg02 := grown_trans hg1 (grown_trans hg2 hgA2)
  clear h2
  go_upto_region 2 with fail
  rw [← HW2.out]
  obtain ⟨JB, hJB⟩ : ∃ JB, JB = w2.heap.size := ⟨_, rfl⟩
  rw [← hJB] at B2 ⊢
  clear hJB HW2
  obtain ⟨⟨c0, c1, c2, c3, c4⟩, hfz, _⟩ := five_room hg02 B0.out
  clear hfz
  go_wp2_with fail
  refine (RF.out _ hg02).mono ?_
  rintro e w3 ⟨u, rfl, h3, hg3⟩
  obtain ⟨q1, q2, q3, q4, q5, q6, rfl⟩ := h3.agg
  obtain ⟨W3, HW3, hgA3, B3⟩ := alloc_namedR w3 (.cells #[.slice q1 P.name.length q2, .slice q3 P.key.length q4, .bool P.wide, .slice q5 P.last.length q6] 38)
  have HU : Hid (ReadIs W3 (.agg #[.slice q1 P.name.length q2, .slice q3 P.key.length q4, .bool P.wide, .slice q5 P.last.length q6]) P) := h3.grown hgA3
  have hg23 := grown_trans hg3 hgA3
  have hg03 := grown_trans hg02 hg23
  clear h3 c0 c1 c2 c3 c4
  go_upto_region 3 with fail
  rw [← HW3.out]
  obtain ⟨MB, hMB⟩ : ∃ MB, MB = w3.heap.size := ⟨_, rfl⟩
  rw [← hMB] at B3 ⊢
  clear hMB HW3
  obtain ⟨⟨c0, c1, c2, c3⟩, _⟩ := quad_room hg23 B2.out
  obtain ⟨⟨d0, d1', d2', d3⟩, _⟩ := quad_room (grown_refl W3 none) B3.out
  have SB : Hid (Calls Tryd.prog 21 #[.agg #[.slice p1 P.name.length p2, .slice p3 P.key.length p4, .bool P.wide, .slice p5 P.last.length p6], .agg #[.slice q1 P.name.length q2, .slice q3 P.key.length q4, .bool P.wide, .slice q5 P.last.length q6]] W3 fun e w' => e = .returned (.bool true) ∧ W3.grownBy w' none) := sameRead_same W3 _ _ P (HY.out.grown hg23) HU.out
  go_wp2_with fail
  refine SB.out.mono ?_
  rintro e w4 ⟨rfl, hg4⟩
  go_wp2
  go_ret
  exact ⟨rfl, grown_trans hg0 (grown_trans hg03 hg4)⟩
end Go.Proofs.YtghjikifflpeiaaDoor
