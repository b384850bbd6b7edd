/-
  The walk of canopylaw.ForestProves, over what the code must keep.
-/
import Derived.Test.YtkkcjnhfbblgiabDoorRForPr
import Derived.Test.YtkkcjnhfbblgiabDoorPart9
import Derived.Test.YtkkcjnhfbblgiabDoorPart18
import Derived.Test.YtkkcjnhfbblgiabDoorPart19
import Derived.Test.YtkkcjnhfbblgiabDoorOctets
namespace Go.Proofs.YtkkcjnhfbblgiabDoor
open Go.RowKit
theorem fprove_few (l : FL) (n k : List UInt8) : (fouterF l n k).steps.length ≤ 140737488355328 ∧ (finnerF l n k).steps.length ≤ 140737488355328 := by
  by_cases h : fproveE l n k = 0
  · have hE : fnE l n = 0 := by
      unfold fproveE at h
      by_cases h0 : fnE l n = 0
      · exact h0
      · rw [if_neg h0] at h; exact absurd h h0
    obtain ⟨hF, _⟩ := fnE_forest hE
    rw [fouterF, if_pos h, finnerF, if_pos h]
    exact ⟨by have := (prove_fits (roots_tree hF) n).1; omega, by have := (prove_fits (of_tree hF n) k).1; omega⟩
  · rw [fouterF, if_neg h, finnerF, if_neg h]
    exact ⟨by simp [noPrf], by simp [noPrf]⟩
set_option maxRecDepth 100000 in
set_option maxHeartbeats 2000000 in
theorem forestProves_walk (hC : FProveOK) (w : World) (v r u : Value) (l : FL) (n k : List UInt8) (hv : TensIs w v l) (hr : SliceIs w r n) (hu : SliceIs w u k) (hl : FitsT l) (hn : n.length ≤ 140737488355328) (hk : k.length ≤ 140737488355328) (ht : Tabs w) :
    Calls Tryd.prog 3 #[v, r, u] w fun e w' => e = .returned (.bool true) ∧ w.grownBy w' none := by
  have TE : Hid (Calls Tryd.prog 6 #[v] w fun e w' => ∃ v', e = .returned v' ∧ OwnT w.heap.size w' v' l ∧ w.grownBy w' none) := tenants_any w v l hv hl
  have ON : Hid (∀ w', w.grownBy w' none → Calls Tryd.prog 8 #[r] w' fun e w'' => ∃ v', e = .returned v' ∧ Own w'.heap.size w'' v' n ∧ w'.grownBy w'' none) := fun w' hg => octets_any w' _ n (hr.grown hg) hn
  have OK : Hid (∀ w', w.grownBy w' none → Calls Tryd.prog 8 #[u] w' fun e w'' => ∃ v', e = .returned v' ∧ Own w'.heap.size w'' v' k ∧ w'.grownBy w'' none) := fun w' hg => octets_any w' _ k (hu.grown hg) hk
  have HC : Hid (∀ (w' : World) (x y z : Value), w.grownBy w' none → TensIs w' x l → SliceIs w' y n → SliceIs w' z k → Calls Tryd.prog 7 #[x, y, z] w' fun e w'' => ∃ x y, e = .returned (.tuple #[x, y, .int .i64 (fproveE l n k)]) ∧ ProofIs w'' x (fouterF l n k) ∧ ProofIs w'' y (finnerF l n k) ∧ w'.grownBy w'' none) := fun w' x y z hg h1 h2 h3 => hC w' x y z l n k h1 h2 h3 hl hn hk (ht.grownNone hg)
  have HD : Hid (∀ w', w.grownBy w' none → Calls Tryd.prog 9 #[v, r, u] w' fun e w'' => ∃ x y, e = .returned (.tuple #[x, y, .int .i64 (fproveE l n k)]) ∧ ProofIs w'' x (fouterF l n k) ∧ ProofIs w'' y (finnerF l n k) ∧ w'.grownBy w'' none) := fun w' hg => forestProof_any w' v r u l n k (hv.grown hg) (hr.grown hg) (hu.grown hg)
  obtain ⟨f1, f2⟩ := fprove_few l n k
  have SO : Hid (∀ w' x y, ProofIs w' x (fouterF l n k) → ProofIs w' y (fouterF l n k) → Calls Tryd.prog 10 #[x, y] w' fun e w'' => e = .returned (.bool true) ∧ w'.grownBy w'' none) := fun w' x y h1 h2 => sameProof_same w' x y _ h1 h2 f1
  have SI : Hid (∀ w' x y, ProofIs w' x (finnerF l n k) → ProofIs w' y (finnerF l n k) → Calls Tryd.prog 10 #[x, y] w' fun e w'' => e = .returned (.bool true) ∧ w'.grownBy w'' none) := fun w' x y h1 h2 => sameProof_same w' x y _ h1 h2 f2
  have SL : Hid (∀ w' x, w.grownBy w' none → TensIs w' x l → Calls Tryd.prog 11 #[x, v] w' fun e w'' => e = .returned (.bool true) ∧ w'.grownBy w'' none) := fun w' x hg h1 => sameTenants_same w' x v _ h1 (hv.grown hg) hl
  generalize fouterF l n k = PO at *
  generalize finnerF l n k = PI at *
  generalize fproveE l n k = AE at *
  obtain ⟨va, vc, rfl⟩ := hv.shape
  obtain ⟨ra, rc, rfl⟩ := hr.shape
  obtain ⟨ua, uc, rfl⟩ := hu.shape
  clear hC hv hr hu hl ht hn hk f1 f2
  go_enter Tryd.func3, Tryd.ntmps3
  go_wp2_with fail
  refine TE.out.mono ?_
  rintro e w1 ⟨v1, rfl, ho1, hg1⟩
  have HL1 : Hid (TensIs w1 v1 l) := ho1.list
  obtain ⟨a1, c1, rfl⟩ := ho1.shape
  clear ho1 TE
  go_wp2_with fail
  refine (ON.out _ hg1).mono ?_
  rintro e w2 ⟨v2, rfl, ho2, hg2⟩
  have HN2 : Hid (SliceIs w2 v2 n) := ho2.slice
  obtain ⟨a2, c2, rfl⟩ := ho2.shape
  have hg02 := grown_trans hg1 hg2
  clear ho2
  go_wp2_with fail
  refine (OK.out _ hg02).mono ?_
  rintro e w3 ⟨v3, rfl, ho3, hg3⟩
  have HK3 : Hid (SliceIs w3 v3 k) := ho3.slice
  obtain ⟨a3, c3, rfl⟩ := ho3.shape
  have hg03 := grown_trans hg02 hg3
  clear ho3
  go_wp2_with fail
  refine (HC.out _ _ _ _ hg03 (HL1.out.grown (grown_trans hg2 hg3)) (HN2.out.grown hg3) HK3.out).mono ?_
  rintro e w4 ⟨x, y, rfl, hx, hy, hg4⟩
  obtain ⟨xs, xt, xk, xl, xv, xw, rfl⟩ := hx.agg
  obtain ⟨ys, yt, yk, yl, yv, yw, rfl⟩ := hy.agg
  obtain ⟨W4, HW4, hgA4, B4⟩ := alloc_named2 w4 (.cells #[.bool PO.empty, .slice xs PO.steps.length xt, .slice xk PO.pair.1.length xl, .slice xv PO.pair.2.length xw] 29)
  obtain ⟨W5, HW5, hgA5, B5⟩ := alloc_named2 W4 (.cells #[.bool PI.empty, .slice ys PI.steps.length yt, .slice yk PI.pair.1.length yl, .slice yv PI.pair.2.length yw] 29)
  have HW45 : Hid (W5 = (w4.alloc (.cells #[.bool PO.empty, .slice xs PO.steps.length xt, .slice xk PO.pair.1.length xl, .slice xv PO.pair.2.length xw] 29)).alloc (.cells #[.bool PI.empty, .slice ys PI.steps.length yt, .slice yk PI.pair.1.length yl, .slice yv PI.pair.2.length yw] 29)) := by show _ = _; rw [HW5.out, HW4.out]
  have hs45 : W4.heap.size = w4.heap.size + 1 := by rw [HW4.out]; simp
  have hg45 := grown_trans hgA4 hgA5
  have HX5 : Hid (ProofIs W5 (.agg #[.bool PO.empty, .slice xs PO.steps.length xt, .slice xk PO.pair.1.length xl, .slice xv PO.pair.2.length xw]) PO) := hx.grown hg45
  have HY5 : Hid (ProofIs W5 (.agg #[.bool PI.empty, .slice ys PI.steps.length yt, .slice yk PI.pair.1.length yl, .slice yv PI.pair.2.length yw]) PI) := hy.grown hg45
  rw [hs45] at B5
  have hg05 := grown_trans hg03 (grown_trans hg4 hg45)
  have hg15 := grown_trans (grown_trans hg2 hg3) (grown_trans hg4 hg45)
  clear hx hy hs45
  go_upto_region 3 with fail
  first | rw [← HW45.out] | skip
  go_wp2_with fail
  refine (HD.out _ hg05).mono ?_
  rintro e w6 ⟨x', y', rfl, hx', hy', hg6⟩
  obtain ⟨xs', xt', xk', xl', xv', xw', rfl⟩ := hx'.agg
  obtain ⟨ys', yt', yk', yl', yv', yw', rfl⟩ := hy'.agg
  obtain ⟨W6, HW6, hgA6, B6⟩ := alloc_named2 w6 (.cells #[.bool PO.empty, .slice xs' PO.steps.length xt', .slice xk' PO.pair.1.length xl', .slice xv' PO.pair.2.length xw'] 29)
  obtain ⟨W7, HW7, hgA7, B7⟩ := alloc_named2 W6 (.cells #[.bool PI.empty, .slice ys' PI.steps.length yt', .slice yk' PI.pair.1.length yl', .slice yv' PI.pair.2.length yw'] 29)
  have HW67 : Hid (W7 = (w6.alloc (.cells #[.bool PO.empty, .slice xs' PO.steps.length xt', .slice xk' PO.pair.1.length xl', .slice xv' PO.pair.2.length xw'] 29)).alloc (.cells #[.bool PI.empty, .slice ys' PI.steps.length yt', .slice yk' PI.pair.1.length yl', .slice yv' PI.pair.2.length yw'] 29)) := by show _ = _; rw [HW7.out, HW6.out]
  have hs67 : W6.heap.size = w6.heap.size + 1 := by rw [HW6.out]; simp
  have hg67 := grown_trans hgA6 hgA7
  have HX7 : Hid (ProofIs W7 (.agg #[.bool PO.empty, .slice xs' PO.steps.length xt', .slice xk' PO.pair.1.length xl', .slice xv' PO.pair.2.length xw']) PO) := hx'.grown hg67
  have HY7 : Hid (ProofIs W7 (.agg #[.bool PI.empty, .slice ys' PI.steps.length yt', .slice yk' PI.pair.1.length yl', .slice yv' PI.pair.2.length yw']) PI) := hy'.grown hg67
  rw [hs67] at B7
  have hg57 := grown_trans hg6 hg67
  have hg07 := grown_trans hg05 hg57
  have hg17 := grown_trans hg15 hg57
  obtain ⟨⟨p0, p1, p2, p3⟩, _⟩ := quad_room (grown_trans hgA5 hg57) B4.out
  obtain ⟨⟨q0, q1, q2, q3⟩, _⟩ := quad_room hg57 B5.out
  obtain ⟨⟨r0, r1, r2, r3⟩, _⟩ := quad_room hgA7 B6.out
  obtain ⟨⟨s0, s1, s2, s3⟩, _⟩ := quad_room (grown_refl W7 none) B7.out
  have S1 : Hid (Calls Tryd.prog 10 #[.agg #[.bool PO.empty, .slice xs PO.steps.length xt, .slice xk PO.pair.1.length xl, .slice xv PO.pair.2.length xw], .agg #[.bool PO.empty, .slice xs' PO.steps.length xt', .slice xk' PO.pair.1.length xl', .slice xv' PO.pair.2.length xw']] W7 fun e w'' => e = .returned (.bool true) ∧ W7.grownBy w'' none) := SO.out _ _ _ (HX5.out.grown hg57) HX7.out
  have S2 : Hid (∀ w', W7.grownBy w' none → Calls Tryd.prog 10 #[.agg #[.bool PI.empty, .slice ys PI.steps.length yt, .slice yk PI.pair.1.length yl, .slice yv PI.pair.2.length yw], .agg #[.bool PI.empty, .slice ys' PI.steps.length yt', .slice yk' PI.pair.1.length yl', .slice yv' PI.pair.2.length yw']] w' fun e w'' => e = .returned (.bool true) ∧ w'.grownBy w'' none) := fun w' hg => SI.out _ _ _ (HY5.out.grown (grown_trans hg57 hg)) (HY7.out.grown hg)
  have hEE : (AE == AE) = true := by simp
  clear hx' hy' hs67
  go_upto_region 4 with fail
  first | rw [← HW67.out] | skip
  go_wp2_with fail
  refine S1.out.mono ?_
  rintro e w8 ⟨rfl, hg8⟩
  have t0 := hg8.cell q0 (by simp)
  have t1 := hg8.cell q1 (by simp)
  have t2 := hg8.cell q2 (by simp)
  have t3 := hg8.cell q3 (by simp)
  have u0 := hg8.cell s0 (by simp)
  have u1 := hg8.cell s1 (by simp)
  have u2 := hg8.cell s2 (by simp)
  have u3 := hg8.cell s3 (by simp)
  clear p0 p1 p2 p3 q0 q1 q2 q3 r0 r1 r2 r3 s0 s1 s2 s3
  go_wp2_with fail
  refine (S2.out _ hg8).mono ?_
  rintro e w9 ⟨rfl, hg9⟩
  have hg79 := grown_trans hg8 hg9
  go_wp2_with fail
  refine (SL.out _ _ (grown_trans hg07 hg79) (HL1.out.grown (grown_trans hg17 hg79))).mono ?_
  rintro e w10 ⟨rfl, hg10⟩
  go_wp2
  go_ret
  exact ⟨rfl, grown_trans (grown_trans hg07 hg79) hg10⟩
end Go.Proofs.YtkkcjnhfbblgiabDoor
