/-
  The walk of canopylaw.WireWrites, over what the code must keep.
-/
import Derived.Test.YtghjikifflpeiaaDoorRqWt
import Derived.Test.YtghjikifflpeiaaDoorRRqWt
import Derived.Test.YtghjikifflpeiaaDoorLReq
import Derived.Test.YtghjikifflpeiaaDoorLSameW
namespace Go.Proofs.YtghjikifflpeiaaDoor
open Go.RowKit
theorem writes_lone {W : World} {b : Nat} {x y g u : Value} {t : TypeId} {P : Plc} (h : W.heap[b]? = some (.cells #[x, y, g, u] t)) (hw : WriteIs W (.agg #[x, y, g, u]) P) : WritesIs W (.slice (some ⟨b, 0, none⟩) 1 1) [P] := by
  obtain ⟨vn, vk, vv, e, s1, s2, s3⟩ := hw
  simp only [Value.agg.injEq, Array.mk.injEq, List.cons.injEq, and_true] at e
  obtain ⟨rfl, rfl, rfl, rfl⟩ := e
  obtain ⟨⟨c0, c1, c2, c3⟩, _⟩ := quad_room (grown_refl W none) h
  refine ⟨_, 1, rfl, by simp, .inr ⟨b, 0, rfl, fun i hi => ?_⟩⟩
  have : i = 0 := by simpa using hi
  subst this
  exact ⟨_, _, _, c0, c1, c2, c3, s1, s2, s3⟩
theorem rwrite_fits {r : Rq} (hf : RqFits r) : PlcFits (rwriteW r) := by
  obtain ⟨_, h1, h2, h3, h4⟩ := hf
  unfold rwriteW
  split
  · exact ⟨by show r.name.length ≤ _; omega, by show r.key.length ≤ _; omega, by show r.value.length ≤ _; omega⟩
  · exact ⟨by simp [noPlc], by simp [noPlc], by simp [noPlc]⟩
set_option maxRecDepth 100000 in
set_option maxHeartbeats 2000000 in
theorem wireWrites_walk (hC : RqWriteOK) (w : World) (v : Value) (r : Rq) (hT : PrtT w) (hv : RqIs w v r) (hf : RqFits r) :
    Calls Tryd.prog 7 #[v] w fun e w' => e = .returned (.bool true) ∧ w.grownBy w' none := by
  obtain ⟨n1, n2, k1, k2, l1, l2, v1, v2, rfl⟩ := hv.agg
  obtain ⟨W0, HW0, hg0, B0⟩ := alloc_namedR w (.cells #[.int .i64 r.kind, .slice n1 r.name.length n2, .slice k1 r.key.length k2, .slice l1 r.last.length l2, .slice v1 r.value.length v2] 24)
  obtain ⟨⟨c0, c1, c2, c3, c4⟩, hfz, _⟩ := five_room (grown_refl W0 none) B0.out
  clear hfz
  have HV : Hid (RqIs W0 (.agg #[.int .i64 r.kind, .slice n1 r.name.length n2, .slice k1 r.key.length k2, .slice l1 r.last.length l2, .slice v1 r.value.length v2]) r) := hv.grown hg0
  have HT : Hid (PrtT W0) := hT.grown hg0
  have RQ : Hid (Calls Tryd.prog 10 #[.agg #[.int .i64 r.kind, .slice n1 r.name.length n2, .slice k1 r.key.length k2, .slice l1 r.last.length l2, .slice v1 r.value.length v2]] W0 fun e w' => ∃ x, e = .returned x ∧ RqIs w' x r ∧ W0.grownBy w' none) := requests_any W0 _ r HV.out hf
  have CK : Hid (∀ w' u, W0.grownBy w' none → RqIs w' u r → Calls Tryd.prog 22 #[u] w' fun e w'' => ∃ x, e = .returned (.tuple #[x, .int .i64 (rwriteE r)]) ∧ WriteIs w'' x (rwriteW r) ∧ w'.grownBy w'' none) := fun w' u hg h => hC w' u r (HT.out.grown hg) h hf
  have RF : Hid (∀ w', W0.grownBy w' none → Calls Tryd.prog 23 #[.agg #[.int .i64 r.kind, .slice n1 r.name.length n2, .slice k1 r.key.length k2, .slice l1 r.last.length l2, .slice v1 r.value.length v2]] w' fun e w'' => ∃ x, e = .returned (.tuple #[x, .int .i64 (rwriteE r)]) ∧ WriteIs w'' x (rwriteW r) ∧ w'.grownBy w'' none) := fun w' hg => requestWrite_any w' _ r (HV.out.grown hg) hf
  have HFP : Hid (FitsW [rwriteW r]) := ⟨by simp, fun i hi => by
    have : i = 0 := by simpa using hi
    subst this
    exact rwrite_fits hf⟩
  generalize rwriteE r = z at *
  generalize rwriteW r = P at *
  have hzz : (z == z) = true := by simp
  clear hv hf hT
  generalize r.kind = K at *
  generalize r.name.length = x0 at *
  generalize r.key.length = x1 at *
  generalize r.last.length = x2 at *
  generalize r.value.length = x3 at *
  go_enter Tryd.func7, Tryd.ntmps7
  go_upto_region 1 with fail
  rw [← HW0.out]
  obtain ⟨IB, hIB⟩ : ∃ IB, IB = w.heap.size := ⟨_, rfl⟩
  rw [← hIB] at B0 c0 c1 c2 c3 c4 ⊢
  clear hIB
  go_wp2_with fail
  refine RQ.out.mono ?_
  rintro e w1 ⟨x, rfl, h1, hg1⟩
  have HX : Hid (RqIs w1 x r) := h1
  obtain ⟨a1, a2, b1, b2, d1, d2, e1, e2, rfl⟩ := h1.agg
  clear h1 c0 c1 c2 c3 c4
  go_wp2_with fail
  refine (CK.out _ _ hg1 HX.out).mono ?_
  rintro e w2 ⟨y, rfl, h2, hg2⟩
  obtain ⟨p1, p2, p3, p4, p5, p6, rfl⟩ := h2.aggW
  obtain ⟨W2, HW2, hgA2, B2⟩ := alloc_namedR w2 (.cells #[.slice p1 P.name.length p2, .slice p3 P.key.length p4, .bool P.gone, .slice p5 P.value.length p6] 43)
  have HY : Hid (WriteIs W2 (.agg #[.slice p1 P.name.length p2, .slice p3 P.key.length p4, .bool P.gone, .slice p5 P.value.length p6]) P) := h2.grown hgA2
  have hg02 := grown_trans hg1 (grown_trans hg2 hgA2)
  clear h2
  go_upto_region 2 with fail
  rw [← HW2.out]
  obtain ⟨JB, hJB⟩ : ∃ JB, JB = w2.heap.size := ⟨_, rfl⟩
  rw [← hJB] at B2 ⊢
  clear hJB HW2
  obtain ⟨⟨c0, c1, c2, c3, c4⟩, hfz, _⟩ := five_room hg02 B0.out
  clear hfz
  go_wp2_with fail
  refine (RF.out _ hg02).mono ?_
  rintro e w3 ⟨u, rfl, h3, hg3⟩
  obtain ⟨q1, q2, q3, q4, q5, q6, rfl⟩ := h3.aggW
  obtain ⟨W3, HW3, hgA3, B3⟩ := alloc_namedR w3 (.cells #[.slice q1 P.name.length q2, .slice q3 P.key.length q4, .bool P.gone, .slice q5 P.value.length q6] 43)
  have HU : Hid (WriteIs W3 (.agg #[.slice q1 P.name.length q2, .slice q3 P.key.length q4, .bool P.gone, .slice q5 P.value.length q6]) P) := h3.grown hgA3
  have hg23 := grown_trans hg3 hgA3
  have hg03 := grown_trans hg02 hg23
  clear h3 c0 c1 c2 c3 c4
  go_upto_region 3 with fail
  rw [← HW3.out]
  obtain ⟨MB, hMB⟩ : ∃ MB, MB = w3.heap.size := ⟨_, rfl⟩
  rw [← hMB] at B3 ⊢
  clear hMB HW3
  obtain ⟨⟨c0, c1, c2, c3⟩, _⟩ := quad_room hg23 B2.out
  obtain ⟨⟨d0, d1', d2', d3⟩, _⟩ := quad_room (grown_refl W3 none) B3.out
  obtain ⟨W4, HW4, hgA4, B4⟩ := alloc_namedR W3 (.cells #[.slice p1 P.name.length p2, .slice p3 P.key.length p4, .bool P.gone, .slice p5 P.value.length p6] 43)
  obtain ⟨W5, HW5, hgA5, B5⟩ := alloc_namedR W4 (.cells #[.slice q1 P.name.length q2, .slice q3 P.key.length q4, .bool P.gone, .slice q5 P.value.length q6] 43)
  have hg35 := grown_trans hgA4 hgA5
  have WV : Hid (WritesIs W5 (.slice (some ⟨W3.heap.size, 0, none⟩) 1 1) [P]) := writes_lone (pair_old hgA5 B4.out) (HY.out.grown (grown_trans hg23 hg35))
  have WU : Hid (WritesIs W5 (.slice (some ⟨W4.heap.size, 0, none⟩) 1 1) [P]) := writes_lone B5.out (HU.out.grown hg35)
  have hs4 : W4.heap.size = W3.heap.size + 1 := by rw [HW4.out]; simp
  rw [hs4] at WU
  have HX5 : Hid (W5 = (W3.alloc (.cells #[.slice p1 P.name.length p2, .slice p3 P.key.length p4, .bool P.gone, .slice p5 P.value.length p6] 43)).alloc (.cells #[.slice q1 P.name.length q2, .slice q3 P.key.length q4, .bool P.gone, .slice q5 P.value.length q6] 43)) := by show _ = _; rw [HW5.out, HW4.out]
  have SB : Hid (Calls Tryd.prog 24 #[.slice (some ⟨W3.heap.size, 0, none⟩) 1 1, .slice (some ⟨W3.heap.size + 1, 0, none⟩) 1 1] W5 fun e w' => e = .returned (.bool true) ∧ W5.grownBy w' none) := sameWrites_same W5 _ _ [P] WV.out WU.out HFP.out
  have hgx : W3.grownBy (W3.alloc (.cells #[.slice p1 P.name.length p2, .slice p3 P.key.length p4, .bool P.gone, .slice p5 P.value.length p6] 43)) none := World.grownBy_alloc _ _ _
  have y0 := hgx.cell d0 (by simp)
  have y1 := hgx.cell d1' (by simp)
  have y2 := hgx.cell d2' (by simp)
  have y3 := hgx.cell d3 (by simp)
  clear hs4 HW4 HW5
  go_wp2_with fail
  rw [← HX5.out]
  refine SB.out.mono ?_
  rintro e w6 ⟨rfl, hg6⟩
  go_wp2
  go_ret
  exact ⟨rfl, grown_trans hg0 (grown_trans hg03 (grown_trans hg35 hg6))⟩
end Go.Proofs.YtghjikifflpeiaaDoor
