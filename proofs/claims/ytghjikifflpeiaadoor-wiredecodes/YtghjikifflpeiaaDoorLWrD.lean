/-
  The walk of canopylaw.WireDecodes, over what the code must keep.
-/
import Derived.Test.YtghjikifflpeiaaDoorRqDe
import Derived.Test.YtghjikifflpeiaaDoorRRq3
import Derived.Test.YtghjikifflpeiaaDoorOctets
import Derived.Test.YtghjikifflpeiaaDoorLSameRq
namespace Go.Proofs.YtghjikifflpeiaaDoor
open Go.RowKit
set_option maxRecDepth 100000 in
set_option maxHeartbeats 2000000 in
theorem wireDecodes_walk (hC : RqDecOK) (w : World) (v : Value) (b : List UInt8) (hT : PrtT w) (hv : SliceIs w v b) (hl : b.length ≤ 140737488355328) :
    Calls Tryd.prog 5 #[v] w fun e w' => e = .returned (.bool true) ∧ w.grownBy w' none := by
  obtain ⟨a, cap, rfl⟩ := hv.shape
  have HV : Hid (SliceIs w (.slice a b.length cap) b) := hv
  have OC : Hid (Calls Tryd.prog 16 #[.slice a b.length cap] w fun e w' => ∃ v', e = .returned v' ∧ Own w.heap.size w' v' b ∧ w.grownBy w' none) := octets_any w _ b hv hl
  have CK : Hid (∀ w' u, w.grownBy w' none → SliceIs w' u b → Calls Tryd.prog 15 #[u] w' fun e w'' => ∃ x, e = .returned (.tuple #[x, .int .i64 (wdecE b)]) ∧ RqIs w'' x (wdecR b) ∧ w'.grownBy w'' none) := fun w' u hg h => hC w' u b (hT.grown hg) h hl
  have RF : Hid (∀ w', w.grownBy w' none → Calls Tryd.prog 17 #[.slice a b.length cap] w' fun e w'' => ∃ x, e = .returned (.tuple #[x, .int .i64 (wdecE b)]) ∧ RqIs w'' x (wdecR b) ∧ w'.grownBy w'' none) := fun w' hg => requestOf_any w' _ b (HV.out.grown hg) hl
  generalize wdecE b = z at *
  generalize wdecR b = P at *
  have hzz : (z == z) = true := by simp
  clear hv hT
  go_enter Tryd.func5, Tryd.ntmps5
  go_wp2_with fail
  refine OC.out.mono ?_
  rintro e w1 ⟨x, rfl, h1, hg1⟩
  have HX : Hid (SliceIs w1 x b) := h1.slice
  obtain ⟨xa, xc, rfl⟩ := h1.shape
  clear h1
  go_wp2_with fail
  refine (CK.out _ _ hg1 HX.out).mono ?_
  rintro e w2 ⟨y, rfl, h2, hg2⟩
  obtain ⟨p1, p2, p3, p4, p5, p6, p7, p8, rfl⟩ := h2.agg
  obtain ⟨W2, HW2, hgA2, B2⟩ := alloc_namedR w2 (.cells #[.int .i64 P.kind, .slice p1 P.name.length p2, .slice p3 P.key.length p4, .slice p5 P.last.length p6, .slice p7 P.value.length p8] 24)
  have HY : Hid (RqIs W2 (.agg #[.int .i64 P.kind, .slice p1 P.name.length p2, .slice p3 P.key.length p4, .slice p5 P.last.length p6, .slice p7 P.value.length p8]) P) := h2.grown hgA2
  have hg02 := grown_trans hg1 (grown_trans hg2 hgA2)
  clear h2
  go_upto_region 2 with fail
  rw [← HW2.out]
  obtain ⟨JB, hJB⟩ : ∃ JB, JB = w2.heap.size := ⟨_, rfl⟩
  rw [← hJB] at B2 ⊢
  clear hJB HW2
  go_wp2_with fail
  refine (RF.out _ hg02).mono ?_
  rintro e w3 ⟨u, rfl, h3, hg3⟩
  obtain ⟨q1, q2, q3, q4, q5, q6, q7, q8, rfl⟩ := h3.agg
  obtain ⟨W3, HW3, hgA3, B3⟩ := alloc_namedR w3 (.cells #[.int .i64 P.kind, .slice q1 P.name.length q2, .slice q3 P.key.length q4, .slice q5 P.last.length q6, .slice q7 P.value.length q8] 24)
  have HU : Hid (RqIs W3 (.agg #[.int .i64 P.kind, .slice q1 P.name.length q2, .slice q3 P.key.length q4, .slice q5 P.last.length q6, .slice q7 P.value.length q8]) P) := h3.grown hgA3
  have hg23 := grown_trans hg3 hgA3
  have hg03 := grown_trans hg02 hg23
  clear h3
  go_upto_region 3 with fail
  rw [← HW3.out]
  obtain ⟨MB, hMB⟩ : ∃ MB, MB = w3.heap.size := ⟨_, rfl⟩
  rw [← hMB] at B3 ⊢
  clear hMB HW3
  obtain ⟨⟨c0, c1, c2, c3, c4⟩, hfz, _⟩ := five_room hg23 B2.out
  clear hfz
  obtain ⟨⟨d0, d1, d2, d3, d4⟩, hfz, _⟩ := five_room (grown_refl W3 none) B3.out
  clear hfz
  have SB : Hid (Calls Tryd.prog 18 #[.agg #[.int .i64 P.kind, .slice p1 P.name.length p2, .slice p3 P.key.length p4, .slice p5 P.last.length p6, .slice p7 P.value.length p8], .agg #[.int .i64 P.kind, .slice q1 P.name.length q2, .slice q3 P.key.length q4, .slice q5 P.last.length q6, .slice q7 P.value.length q8]] W3 fun e w' => e = .returned (.bool true) ∧ W3.grownBy w' none) := sameRequest_same W3 _ _ P (HY.out.grown hg23) HU.out
  go_wp2_with fail
  refine SB.out.mono ?_
  rintro e w4 ⟨rfl, hg4⟩
  go_wp2
  go_ret
  exact ⟨rfl, grown_trans hg03 hg4⟩
end Go.Proofs.YtghjikifflpeiaaDoor
