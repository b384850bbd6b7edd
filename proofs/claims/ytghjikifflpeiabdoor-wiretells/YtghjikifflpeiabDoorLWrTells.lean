/-
  The walk of canopykeep.WireTells, over what the code must keep.
-/
import Derived.Test.YtghjikifflpeiabDoorRqRd
import Derived.Test.YtghjikifflpeiabDoorRqWt
import Derived.Test.YtghjikifflpeiabDoorKReq
import Derived.Test.YtghjikifflpeiabDoorKSame
namespace Go.Proofs.YtghjikifflpeiabDoor
open Go.RowKit
set_option maxRecDepth 100000 in
set_option maxHeartbeats 4000000 in
theorem wireTells_walk (hR : RqReadOK) (hW : RqWriteOK) (w : World) (v : Value) (c : Rq) (hT : PrtT w) (hv : RqIs w v c) (hf : RqFits c) :
    Calls Tryd.prog 5 #[v] w fun e w' => e = .returned (.bool true) ∧ w.grownBy w' none := by
  obtain ⟨n1, n2, k1, k2, l1, l2, v1, v2, rfl⟩ := hv.agg
  obtain ⟨W0, HW0, hg0, B0⟩ := alloc_namedR w (.cells #[.int .i64 c.kind, .slice n1 c.name.length n2, .slice k1 c.key.length k2, .slice l1 c.last.length l2, .slice v1 c.value.length v2] 32)
  obtain ⟨⟨c0, c1, c2, c3, c4⟩, hfz, _⟩ := five_room (grown_refl W0 none) B0.out
  clear hfz
  have HT : Hid (PrtT W0) := hT.grown hg0
  have KR : Hid (Calls Tryd.prog 10 #[.agg #[.int .i64 c.kind, .slice n1 c.name.length n2, .slice k1 c.key.length k2, .slice l1 c.last.length l2, .slice v1 c.value.length v2]] W0 fun e w' => ∃ k : Nat, k < 8 ∧ ∃ x, e = .returned x ∧ RqIs w' x (rqOf k c.name c.key c.last c.value) ∧ W0.grownBy w' none) := kreq_any W0 _ c (hv.grown hg0) hf
  have HOK : Hid (∀ k, k < 8 → RqOK (rqOf k c.name c.key c.last c.value)) := fun k hk => rqOf_ok k hk _ _ _ _
  have HR : Hid RqReadOK := hR
  have HW : Hid RqWriteOK := hW
  clear hR hW
  clear hv hf hT
  generalize c.kind = CK at *
  generalize c.name.length = x0 at *
  generalize c.key.length = x1 at *
  generalize c.last.length = x2 at *
  generalize c.value.length = x3 at *
  go_enter Tryd.func5, Tryd.ntmps5
  go_upto_region 1 with fail
  rw [← HW0.out]
  obtain ⟨IB, hIB⟩ : ∃ IB, IB = w.heap.size := ⟨_, rfl⟩
  rw [← hIB] at B0 c0 c1 c2 c3 c4 ⊢
  clear hIB HW0
  go_wp2_with fail
  refine KR.out.mono ?_
  rintro e w1 ⟨k, hk, x, rfl, h1, hg1⟩
  have ho := HOK.out k hk
  obtain ⟨P, hP⟩ : ∃ P, P = rqOf k c.name c.key c.last c.value := ⟨_, rfl⟩
  rw [← hP] at h1 ho
  have HP : Hid (RqOK P) := ho
  clear hk hP HOK KR ho
  obtain ⟨p1, p2, p3, p4, p5, p6, p7, p8, rfl⟩ := h1.agg
  obtain ⟨W1, HW1, hgA1, B1⟩ := alloc_namedR w1 (.cells #[.int .i64 P.kind, .slice p1 P.name.length p2, .slice p3 P.key.length p4, .slice p5 P.last.length p6, .slice p7 P.value.length p8] 24)
  have HY : Hid (RqIs W1 (.agg #[.int .i64 P.kind, .slice p1 P.name.length p2, .slice p3 P.key.length p4, .slice p5 P.last.length p6, .slice p7 P.value.length p8]) P) := h1.grown hgA1
  have hg01 := grown_trans hg1 hgA1
  clear h1 c0 c1 c2 c3 c4
  go_upto_region 2 with fail
  rw [← HW1.out]
  obtain ⟨JB, hJB⟩ : ∃ JB, JB = w1.heap.size := ⟨_, rfl⟩
  rw [← hJB] at B1 ⊢
  clear hJB HW1
  have hRD : Calls Tryd.prog 12 #[.agg #[.int .i64 P.kind, .slice p1 P.name.length p2, .slice p3 P.key.length p4, .slice p5 P.last.length p6, .slice p7 P.value.length p8]] W1 fun e w' => ∃ x, e = .returned (.tuple #[x, .int .i64 (rreadE P)]) ∧ ReadIs w' x (rreadR P) ∧ W1.grownBy w' none := HR.out W1 _ P (HT.out.grown hg01) HY.out (rq_fits HP.out)
  have hWT : ∀ w', W1.grownBy w' none → Calls Tryd.prog 13 #[.agg #[.int .i64 P.kind, .slice p1 P.name.length p2, .slice p3 P.key.length p4, .slice p5 P.last.length p6, .slice p7 P.value.length p8]] w' fun e w'' => ∃ x, e = .returned (.tuple #[x, .int .i64 (rwriteE P)]) ∧ WriteIs w'' x (rwriteW P) ∧ w'.grownBy w'' none := fun w' h => HW.out w' _ P (HT.out.grown (grown_trans hg01 h)) (HY.out.grown h) (rq_fits HP.out)
  obtain ⟨t1, t2⟩ := tells HP.out
  have hk1 := HP.out.kind
  have hrr : rreadR P = if rreadE P = 0 then ⟨P.name, P.key, decide (P.kind = 3), P.last⟩ else noRd := rfl
  have hww : rwriteW P = if rwriteE P = 0 then ⟨P.name, P.key, P.value, decide (P.kind = 5)⟩ else noPlc := rfl
  rw [t1] at hRD hrr
  rw [t2] at hWT hww
  generalize rreadR P = RR at *
  generalize rwriteW P = WW at *
  clear t1 t2 HR HW HP
  obtain ⟨K, bn, bk, bl, bv⟩ := P
  simp only at hRD hWT hrr hww hk1 HY B1 ⊢
  have hK : K = 2 ∨ K = 3 ∨ K = 4 ∨ K = 5 ∨ ¬ (K = 2 ∨ K = 3 ∨ K = 4 ∨ K = 5) := by omega
  clear hk1
  rcases hK with rfl | rfl | rfl | rfl | hK
  · have hr1 : RR = ⟨bn, bk, false, bl⟩ := by rw [hrr]; rfl
    have hw1 : WW = noPlc := by rw [hww]; rfl
    subst hr1 hw1
    have RD : Hid (Calls Tryd.prog 12 #[.agg #[.int .i64 2, .slice p1 bn.length p2, .slice p3 bk.length p4, .slice p5 bl.length p6, .slice p7 bv.length p8]] W1 fun e w' => ∃ x, e = .returned (.tuple #[x, .int .i64 0]) ∧ ReadIs w' x (⟨bn, bk, false, bl⟩ : Rd) ∧ W1.grownBy w' none) := hRD
    have WT : Hid (∀ w', W1.grownBy w' none → Calls Tryd.prog 13 #[.agg #[.int .i64 2, .slice p1 bn.length p2, .slice p3 bk.length p4, .slice p5 bl.length p6, .slice p7 bv.length p8]] w' fun e w'' => ∃ x, e = .returned (.tuple #[x, .int .i64 7]) ∧ WriteIs w'' x noPlc ∧ w'.grownBy w'' none) := hWT
    clear hRD hWT hrr hww
    obtain ⟨⟨c0, c1, c2, c3, c4⟩, hfz, _⟩ := five_room (grown_refl W1 none) B1.out
    clear hfz
    go_wp2_with fail
    refine RD.out.mono ?_
    rintro e w2 ⟨y, rfl, h2, hg2⟩
    have HRD : Hid (ReadIs w2 y (⟨bn, bk, false, bl⟩ : Rd)) := h2
    obtain ⟨q1, q2, q3, q4, q5, q6, hy⟩ := h2.agg
    have hy' : y = .agg #[.slice q1 bn.length q2, .slice q3 bk.length q4, .bool false, .slice q5 bl.length q6] := hy
    subst hy'
    obtain ⟨W2, HW2, hgA2, B2⟩ := alloc_namedR w2 (.cells #[.slice q1 bn.length q2, .slice q3 bk.length q4, .bool false, .slice q5 bl.length q6] 37)
    have hg12 := grown_trans hg2 hgA2
    clear h2 hy c0 c1 c2 c3 c4
    go_upto_region 3 with fail
    rw [← HW2.out]
    obtain ⟨XB, hXB⟩ : ∃ XB, XB = w2.heap.size := ⟨_, rfl⟩
    rw [← hXB] at B2 ⊢
    clear hXB HW2
    obtain ⟨⟨c0, c1, c2, c3, c4⟩, hfz, _⟩ := five_room hg12 B1.out
    clear hfz
    go_wp2_with fail
    refine (WT.out _ hg12).mono ?_
    rintro e w3 ⟨y, rfl, h3, hg3⟩
    have HWT : Hid (WriteIs w3 y noPlc) := h3
    obtain ⟨r1, r2, r3, r4, r5, r6, hy⟩ := h3.aggW
    have hy' : y = .agg #[.slice r1 0 r2, .slice r3 0 r4, .bool false, .slice r5 0 r6] := hy
    subst hy'
    obtain ⟨W3, HW3, hgA3, B3⟩ := alloc_namedR w3 (.cells #[.slice r1 0 r2, .slice r3 0 r4, .bool false, .slice r5 0 r6] 41)
    have hg23 := grown_trans hg3 hgA3
    have hg13 := grown_trans hg12 hg23
    clear h3 hy c0 c1 c2 c3 c4
    go_upto_region 4 with fail
    rw [← HW3.out]
    obtain ⟨YB, hYB⟩ : ∃ YB, YB = w3.heap.size := ⟨_, rfl⟩
    rw [← hYB] at B3 ⊢
    clear hYB HW3
    obtain ⟨⟨c0, c1, c2, c3, c4⟩, hfz, _⟩ := five_room hg13 B1.out
    clear hfz
    obtain ⟨⟨d0, d1, d2, d3⟩, _⟩ := quad_room hg23 B2.out
    obtain ⟨⟨e0, e1, e2, e3⟩, _⟩ := quad_room (grown_refl W3 none) B3.out
    obtain ⟨_, S0, S1, S2, S3⟩ := (HY.out.grown hg13).parts
    obtain ⟨T0, T1, _, T2⟩ := (HRD.out.grown (grown_trans hgA2 hg23)).parts
    have Q0 : Hid (Calls Tryd.prog 9 #[.slice q1 bn.length q2, .slice p1 bn.length p2] W3 fun e w' => e = .returned (.bool true) ∧ w' = W3) := by
      have := same_any W3 _ _ _ _ T0 S0
      rw [decide_eq_true rfl] at this
      exact this
    have Q1 : Hid (Calls Tryd.prog 9 #[.slice q3 bk.length q4, .slice p3 bk.length p4] W3 fun e w' => e = .returned (.bool true) ∧ w' = W3) := by
      have := same_any W3 _ _ _ _ T1 S1
      rw [decide_eq_true rfl] at this
      exact this
    have Q2 : Hid (Calls Tryd.prog 9 #[.slice q5 bl.length q6, .slice p5 bl.length p6] W3 fun e w' => e = .returned (.bool true) ∧ w' = W3) := by
      have := same_any W3 _ _ _ _ T2 S2
      rw [decide_eq_true rfl] at this
      exact this
    clear S0 S1 S2 S3 T0 T1 T2
    generalize bn.length = y0 at *
    generalize bk.length = y1 at *
    generalize bl.length = y2 at *
    generalize bv.length = y3 at *
    go_wp2_with fail
    refine Q0.out.mono ?_
    rintro e w7 ⟨rfl, hw⟩
    rw [hw]
    clear hw
    go_wp2_with fail
    refine Q1.out.mono ?_
    rintro e w7 ⟨rfl, hw⟩
    rw [hw]
    clear hw
    go_wp2_with fail
    refine Q2.out.mono ?_
    rintro e w7 ⟨rfl, hw⟩
    rw [hw]
    clear hw
    go_wp2
    go_ret
    exact ⟨rfl, grown_trans hg0 (grown_trans hg01 hg13)⟩
  · have hr1 : RR = ⟨bn, bk, true, bl⟩ := by rw [hrr]; rfl
    have hw1 : WW = noPlc := by rw [hww]; rfl
    subst hr1 hw1
    have RD : Hid (Calls Tryd.prog 12 #[.agg #[.int .i64 3, .slice p1 bn.length p2, .slice p3 bk.length p4, .slice p5 bl.length p6, .slice p7 bv.length p8]] W1 fun e w' => ∃ x, e = .returned (.tuple #[x, .int .i64 0]) ∧ ReadIs w' x (⟨bn, bk, true, bl⟩ : Rd) ∧ W1.grownBy w' none) := hRD
    have WT : Hid (∀ w', W1.grownBy w' none → Calls Tryd.prog 13 #[.agg #[.int .i64 3, .slice p1 bn.length p2, .slice p3 bk.length p4, .slice p5 bl.length p6, .slice p7 bv.length p8]] w' fun e w'' => ∃ x, e = .returned (.tuple #[x, .int .i64 7]) ∧ WriteIs w'' x noPlc ∧ w'.grownBy w'' none) := hWT
    clear hRD hWT hrr hww
    obtain ⟨⟨c0, c1, c2, c3, c4⟩, hfz, _⟩ := five_room (grown_refl W1 none) B1.out
    clear hfz
    go_wp2_with fail
    refine RD.out.mono ?_
    rintro e w2 ⟨y, rfl, h2, hg2⟩
    have HRD : Hid (ReadIs w2 y (⟨bn, bk, true, bl⟩ : Rd)) := h2
    obtain ⟨q1, q2, q3, q4, q5, q6, hy⟩ := h2.agg
    have hy' : y = .agg #[.slice q1 bn.length q2, .slice q3 bk.length q4, .bool true, .slice q5 bl.length q6] := hy
    subst hy'
    obtain ⟨W2, HW2, hgA2, B2⟩ := alloc_namedR w2 (.cells #[.slice q1 bn.length q2, .slice q3 bk.length q4, .bool true, .slice q5 bl.length q6] 37)
    have hg12 := grown_trans hg2 hgA2
    clear h2 hy c0 c1 c2 c3 c4
    go_upto_region 3 with fail
    rw [← HW2.out]
    obtain ⟨XB, hXB⟩ : ∃ XB, XB = w2.heap.size := ⟨_, rfl⟩
    rw [← hXB] at B2 ⊢
    clear hXB HW2
    obtain ⟨⟨c0, c1, c2, c3, c4⟩, hfz, _⟩ := five_room hg12 B1.out
    clear hfz
    go_wp2_with fail
    refine (WT.out _ hg12).mono ?_
    rintro e w3 ⟨y, rfl, h3, hg3⟩
    have HWT : Hid (WriteIs w3 y noPlc) := h3
    obtain ⟨r1, r2, r3, r4, r5, r6, hy⟩ := h3.aggW
    have hy' : y = .agg #[.slice r1 0 r2, .slice r3 0 r4, .bool false, .slice r5 0 r6] := hy
    subst hy'
    obtain ⟨W3, HW3, hgA3, B3⟩ := alloc_namedR w3 (.cells #[.slice r1 0 r2, .slice r3 0 r4, .bool false, .slice r5 0 r6] 41)
    have hg23 := grown_trans hg3 hgA3
    have hg13 := grown_trans hg12 hg23
    clear h3 hy c0 c1 c2 c3 c4
    go_upto_region 4 with fail
    rw [← HW3.out]
    obtain ⟨YB, hYB⟩ : ∃ YB, YB = w3.heap.size := ⟨_, rfl⟩
    rw [← hYB] at B3 ⊢
    clear hYB HW3
    obtain ⟨⟨c0, c1, c2, c3, c4⟩, hfz, _⟩ := five_room hg13 B1.out
    clear hfz
    obtain ⟨⟨d0, d1, d2, d3⟩, _⟩ := quad_room hg23 B2.out
    obtain ⟨⟨e0, e1, e2, e3⟩, _⟩ := quad_room (grown_refl W3 none) B3.out
    obtain ⟨_, S0, S1, S2, S3⟩ := (HY.out.grown hg13).parts
    obtain ⟨T0, T1, _, T2⟩ := (HRD.out.grown (grown_trans hgA2 hg23)).parts
    have Q0 : Hid (Calls Tryd.prog 9 #[.slice q1 bn.length q2, .slice p1 bn.length p2] W3 fun e w' => e = .returned (.bool true) ∧ w' = W3) := by
      have := same_any W3 _ _ _ _ T0 S0
      rw [decide_eq_true rfl] at this
      exact this
    have Q1 : Hid (Calls Tryd.prog 9 #[.slice q3 bk.length q4, .slice p3 bk.length p4] W3 fun e w' => e = .returned (.bool true) ∧ w' = W3) := by
      have := same_any W3 _ _ _ _ T1 S1
      rw [decide_eq_true rfl] at this
      exact this
    have Q2 : Hid (Calls Tryd.prog 9 #[.slice q5 bl.length q6, .slice p5 bl.length p6] W3 fun e w' => e = .returned (.bool true) ∧ w' = W3) := by
      have := same_any W3 _ _ _ _ T2 S2
      rw [decide_eq_true rfl] at this
      exact this
    clear S0 S1 S2 S3 T0 T1 T2
    generalize bn.length = y0 at *
    generalize bk.length = y1 at *
    generalize bl.length = y2 at *
    generalize bv.length = y3 at *
    go_wp2_with fail
    refine Q0.out.mono ?_
    rintro e w7 ⟨rfl, hw⟩
    rw [hw]
    clear hw
    go_wp2_with fail
    refine Q1.out.mono ?_
    rintro e w7 ⟨rfl, hw⟩
    rw [hw]
    clear hw
    go_wp2_with fail
    refine Q2.out.mono ?_
    rintro e w7 ⟨rfl, hw⟩
    rw [hw]
    clear hw
    go_wp2
    go_ret
    exact ⟨rfl, grown_trans hg0 (grown_trans hg01 hg13)⟩
  · have hr1 : RR = noRd := by rw [hrr]; rfl
    have hw1 : WW = ⟨bn, bk, bv, false⟩ := by rw [hww]; rfl
    subst hr1 hw1
    have RD : Hid (Calls Tryd.prog 12 #[.agg #[.int .i64 4, .slice p1 bn.length p2, .slice p3 bk.length p4, .slice p5 bl.length p6, .slice p7 bv.length p8]] W1 fun e w' => ∃ x, e = .returned (.tuple #[x, .int .i64 7]) ∧ ReadIs w' x noRd ∧ W1.grownBy w' none) := hRD
    have WT : Hid (∀ w', W1.grownBy w' none → Calls Tryd.prog 13 #[.agg #[.int .i64 4, .slice p1 bn.length p2, .slice p3 bk.length p4, .slice p5 bl.length p6, .slice p7 bv.length p8]] w' fun e w'' => ∃ x, e = .returned (.tuple #[x, .int .i64 0]) ∧ WriteIs w'' x (⟨bn, bk, bv, false⟩ : Plc) ∧ w'.grownBy w'' none) := hWT
    clear hRD hWT hrr hww
    obtain ⟨⟨c0, c1, c2, c3, c4⟩, hfz, _⟩ := five_room (grown_refl W1 none) B1.out
    clear hfz
    go_wp2_with fail
    refine RD.out.mono ?_
    rintro e w2 ⟨y, rfl, h2, hg2⟩
    have HRD : Hid (ReadIs w2 y noRd) := h2
    obtain ⟨q1, q2, q3, q4, q5, q6, hy⟩ := h2.agg
    have hy' : y = .agg #[.slice q1 0 q2, .slice q3 0 q4, .bool false, .slice q5 0 q6] := hy
    subst hy'
    obtain ⟨W2, HW2, hgA2, B2⟩ := alloc_namedR w2 (.cells #[.slice q1 0 q2, .slice q3 0 q4, .bool false, .slice q5 0 q6] 37)
    have hg12 := grown_trans hg2 hgA2
    clear h2 hy c0 c1 c2 c3 c4
    go_upto_region 3 with fail
    rw [← HW2.out]
    obtain ⟨XB, hXB⟩ : ∃ XB, XB = w2.heap.size := ⟨_, rfl⟩
    rw [← hXB] at B2 ⊢
    clear hXB HW2
    obtain ⟨⟨c0, c1, c2, c3, c4⟩, hfz, _⟩ := five_room hg12 B1.out
    clear hfz
    go_wp2_with fail
    refine (WT.out _ hg12).mono ?_
    rintro e w3 ⟨y, rfl, h3, hg3⟩
    have HWT : Hid (WriteIs w3 y (⟨bn, bk, bv, false⟩ : Plc)) := h3
    obtain ⟨r1, r2, r3, r4, r5, r6, hy⟩ := h3.aggW
    have hy' : y = .agg #[.slice r1 bn.length r2, .slice r3 bk.length r4, .bool false, .slice r5 bv.length r6] := hy
    subst hy'
    obtain ⟨W3, HW3, hgA3, B3⟩ := alloc_namedR w3 (.cells #[.slice r1 bn.length r2, .slice r3 bk.length r4, .bool false, .slice r5 bv.length r6] 41)
    have hg23 := grown_trans hg3 hgA3
    have hg13 := grown_trans hg12 hg23
    clear h3 hy c0 c1 c2 c3 c4
    go_upto_region 4 with fail
    rw [← HW3.out]
    obtain ⟨YB, hYB⟩ : ∃ YB, YB = w3.heap.size := ⟨_, rfl⟩
    rw [← hYB] at B3 ⊢
    clear hYB HW3
    obtain ⟨⟨c0, c1, c2, c3, c4⟩, hfz, _⟩ := five_room hg13 B1.out
    clear hfz
    obtain ⟨⟨d0, d1, d2, d3⟩, _⟩ := quad_room hg23 B2.out
    obtain ⟨⟨e0, e1, e2, e3⟩, _⟩ := quad_room (grown_refl W3 none) B3.out
    obtain ⟨_, S0, S1, S2, S3⟩ := (HY.out.grown hg13).parts
    obtain ⟨vn, vk, vv, hag, T0, T1, T2⟩ := HWT.out.grown hgA3
    simp only [Value.agg.injEq, Array.mk.injEq, List.cons.injEq, and_true] at hag
    obtain ⟨rfl, rfl, _, rfl⟩ := hag
    have Q0 : Hid (Calls Tryd.prog 9 #[.slice r1 bn.length r2, .slice p1 bn.length p2] W3 fun e w' => e = .returned (.bool true) ∧ w' = W3) := by
      have := same_any W3 _ _ _ _ T0 S0
      rw [decide_eq_true rfl] at this
      exact this
    have Q1 : Hid (Calls Tryd.prog 9 #[.slice r3 bk.length r4, .slice p3 bk.length p4] W3 fun e w' => e = .returned (.bool true) ∧ w' = W3) := by
      have := same_any W3 _ _ _ _ T1 S1
      rw [decide_eq_true rfl] at this
      exact this
    have Q2 : Hid (Calls Tryd.prog 9 #[.slice r5 bv.length r6, .slice p7 bv.length p8] W3 fun e w' => e = .returned (.bool true) ∧ w' = W3) := by
      have := same_any W3 _ _ _ _ T2 S3
      rw [decide_eq_true rfl] at this
      exact this
    clear S0 S1 S2 S3 T0 T1 T2
    generalize bn.length = y0 at *
    generalize bk.length = y1 at *
    generalize bl.length = y2 at *
    generalize bv.length = y3 at *
    go_wp2_with fail
    refine Q0.out.mono ?_
    rintro e w7 ⟨rfl, hw⟩
    rw [hw]
    clear hw
    go_wp2_with fail
    refine Q1.out.mono ?_
    rintro e w7 ⟨rfl, hw⟩
    rw [hw]
    clear hw
    go_wp2_with fail
    refine Q2.out.mono ?_
    rintro e w7 ⟨rfl, hw⟩
    rw [hw]
    clear hw
    go_wp2
    go_ret
    exact ⟨rfl, grown_trans hg0 (grown_trans hg01 hg13)⟩
  · have hr1 : RR = noRd := by rw [hrr]; rfl
    have hw1 : WW = ⟨bn, bk, bv, true⟩ := by rw [hww]; rfl
    subst hr1 hw1
    have RD : Hid (Calls Tryd.prog 12 #[.agg #[.int .i64 5, .slice p1 bn.length p2, .slice p3 bk.length p4, .slice p5 bl.length p6, .slice p7 bv.length p8]] W1 fun e w' => ∃ x, e = .returned (.tuple #[x, .int .i64 7]) ∧ ReadIs w' x noRd ∧ W1.grownBy w' none) := hRD
    have WT : Hid (∀ w', W1.grownBy w' none → Calls Tryd.prog 13 #[.agg #[.int .i64 5, .slice p1 bn.length p2, .slice p3 bk.length p4, .slice p5 bl.length p6, .slice p7 bv.length p8]] w' fun e w'' => ∃ x, e = .returned (.tuple #[x, .int .i64 0]) ∧ WriteIs w'' x (⟨bn, bk, bv, true⟩ : Plc) ∧ w'.grownBy w'' none) := hWT
    clear hRD hWT hrr hww
    obtain ⟨⟨c0, c1, c2, c3, c4⟩, hfz, _⟩ := five_room (grown_refl W1 none) B1.out
    clear hfz
    go_wp2_with fail
    refine RD.out.mono ?_
    rintro e w2 ⟨y, rfl, h2, hg2⟩
    have HRD : Hid (ReadIs w2 y noRd) := h2
    obtain ⟨q1, q2, q3, q4, q5, q6, hy⟩ := h2.agg
    have hy' : y = .agg #[.slice q1 0 q2, .slice q3 0 q4, .bool false, .slice q5 0 q6] := hy
    subst hy'
    obtain ⟨W2, HW2, hgA2, B2⟩ := alloc_namedR w2 (.cells #[.slice q1 0 q2, .slice q3 0 q4, .bool false, .slice q5 0 q6] 37)
    have hg12 := grown_trans hg2 hgA2
    clear h2 hy c0 c1 c2 c3 c4
    go_upto_region 3 with fail
    rw [← HW2.out]
    obtain ⟨XB, hXB⟩ : ∃ XB, XB = w2.heap.size := ⟨_, rfl⟩
    rw [← hXB] at B2 ⊢
    clear hXB HW2
    obtain ⟨⟨c0, c1, c2, c3, c4⟩, hfz, _⟩ := five_room hg12 B1.out
    clear hfz
    go_wp2_with fail
    refine (WT.out _ hg12).mono ?_
    rintro e w3 ⟨y, rfl, h3, hg3⟩
    have HWT : Hid (WriteIs w3 y (⟨bn, bk, bv, true⟩ : Plc)) := h3
    obtain ⟨r1, r2, r3, r4, r5, r6, hy⟩ := h3.aggW
    have hy' : y = .agg #[.slice r1 bn.length r2, .slice r3 bk.length r4, .bool true, .slice r5 bv.length r6] := hy
    subst hy'
    obtain ⟨W3, HW3, hgA3, B3⟩ := alloc_namedR w3 (.cells #[.slice r1 bn.length r2, .slice r3 bk.length r4, .bool true, .slice r5 bv.length r6] 41)
    have hg23 := grown_trans hg3 hgA3
    have hg13 := grown_trans hg12 hg23
    clear h3 hy c0 c1 c2 c3 c4
    go_upto_region 4 with fail
    rw [← HW3.out]
    obtain ⟨YB, hYB⟩ : ∃ YB, YB = w3.heap.size := ⟨_, rfl⟩
    rw [← hYB] at B3 ⊢
    clear hYB HW3
    obtain ⟨⟨c0, c1, c2, c3, c4⟩, hfz, _⟩ := five_room hg13 B1.out
    clear hfz
    obtain ⟨⟨d0, d1, d2, d3⟩, _⟩ := quad_room hg23 B2.out
    obtain ⟨⟨e0, e1, e2, e3⟩, _⟩ := quad_room (grown_refl W3 none) B3.out
    obtain ⟨_, S0, S1, S2, S3⟩ := (HY.out.grown hg13).parts
    obtain ⟨vn, vk, vv, hag, T0, T1, T2⟩ := HWT.out.grown hgA3
    simp only [Value.agg.injEq, Array.mk.injEq, List.cons.injEq, and_true] at hag
    obtain ⟨rfl, rfl, _, rfl⟩ := hag
    have Q0 : Hid (Calls Tryd.prog 9 #[.slice r1 bn.length r2, .slice p1 bn.length p2] W3 fun e w' => e = .returned (.bool true) ∧ w' = W3) := by
      have := same_any W3 _ _ _ _ T0 S0
      rw [decide_eq_true rfl] at this
      exact this
    have Q1 : Hid (Calls Tryd.prog 9 #[.slice r3 bk.length r4, .slice p3 bk.length p4] W3 fun e w' => e = .returned (.bool true) ∧ w' = W3) := by
      have := same_any W3 _ _ _ _ T1 S1
      rw [decide_eq_true rfl] at this
      exact this
    have Q2 : Hid (Calls Tryd.prog 9 #[.slice r5 bv.length r6, .slice p7 bv.length p8] W3 fun e w' => e = .returned (.bool true) ∧ w' = W3) := by
      have := same_any W3 _ _ _ _ T2 S3
      rw [decide_eq_true rfl] at this
      exact this
    clear S0 S1 S2 S3 T0 T1 T2
    generalize bn.length = y0 at *
    generalize bk.length = y1 at *
    generalize bl.length = y2 at *
    generalize bv.length = y3 at *
    go_wp2_with fail
    refine Q0.out.mono ?_
    rintro e w7 ⟨rfl, hw⟩
    rw [hw]
    clear hw
    go_wp2_with fail
    refine Q1.out.mono ?_
    rintro e w7 ⟨rfl, hw⟩
    rw [hw]
    clear hw
    go_wp2_with fail
    refine Q2.out.mono ?_
    rintro e w7 ⟨rfl, hw⟩
    rw [hw]
    clear hw
    go_wp2
    go_ret
    exact ⟨rfl, grown_trans hg0 (grown_trans hg01 hg13)⟩
  · have j1 : ¬ (K = 2 ∨ K = 3) := fun h => hK (by omega)
    have j2 : ¬ (K = 4 ∨ K = 5) := fun h => hK (by omega)
    rw [if_neg j1] at hRD hrr
    rw [if_neg j2] at hWT hww
    have hr1 : RR = noRd := by rw [hrr]; rfl
    have hw1 : WW = noPlc := by rw [hww]; rfl
    subst hr1 hw1
    have a2 : (K == 2) = false := beq_eq_false_iff_ne.2 (fun h => hK (by omega))
    have a3 : (K == 3) = false := beq_eq_false_iff_ne.2 (fun h => hK (by omega))
    have a4 : (K == 4) = false := beq_eq_false_iff_ne.2 (fun h => hK (by omega))
    have a5 : (K == 5) = false := beq_eq_false_iff_ne.2 (fun h => hK (by omega))
    clear j1 j2 hK
    have RD : Hid (Calls Tryd.prog 12 #[.agg #[.int .i64 K, .slice p1 bn.length p2, .slice p3 bk.length p4, .slice p5 bl.length p6, .slice p7 bv.length p8]] W1 fun e w' => ∃ x, e = .returned (.tuple #[x, .int .i64 7]) ∧ ReadIs w' x noRd ∧ W1.grownBy w' none) := hRD
    have WT : Hid (∀ w', W1.grownBy w' none → Calls Tryd.prog 13 #[.agg #[.int .i64 K, .slice p1 bn.length p2, .slice p3 bk.length p4, .slice p5 bl.length p6, .slice p7 bv.length p8]] w' fun e w'' => ∃ x, e = .returned (.tuple #[x, .int .i64 7]) ∧ WriteIs w'' x noPlc ∧ w'.grownBy w'' none) := hWT
    clear hRD hWT hrr hww
    obtain ⟨⟨c0, c1, c2, c3, c4⟩, hfz, _⟩ := five_room (grown_refl W1 none) B1.out
    clear hfz
    go_wp2_with fail
    refine RD.out.mono ?_
    rintro e w2 ⟨y, rfl, h2, hg2⟩
    have HRD : Hid (ReadIs w2 y noRd) := h2
    obtain ⟨q1, q2, q3, q4, q5, q6, hy⟩ := h2.agg
    have hy' : y = .agg #[.slice q1 0 q2, .slice q3 0 q4, .bool false, .slice q5 0 q6] := hy
    subst hy'
    obtain ⟨W2, HW2, hgA2, B2⟩ := alloc_namedR w2 (.cells #[.slice q1 0 q2, .slice q3 0 q4, .bool false, .slice q5 0 q6] 37)
    have hg12 := grown_trans hg2 hgA2
    clear h2 hy c0 c1 c2 c3 c4
    go_upto_region 3 with fail
    rw [← HW2.out]
    obtain ⟨XB, hXB⟩ : ∃ XB, XB = w2.heap.size := ⟨_, rfl⟩
    rw [← hXB] at B2 ⊢
    clear hXB HW2
    obtain ⟨⟨c0, c1, c2, c3, c4⟩, hfz, _⟩ := five_room hg12 B1.out
    clear hfz
    go_wp2_with fail
    refine (WT.out _ hg12).mono ?_
    rintro e w3 ⟨y, rfl, h3, hg3⟩
    have HWT : Hid (WriteIs w3 y noPlc) := h3
    obtain ⟨r1, r2, r3, r4, r5, r6, hy⟩ := h3.aggW
    have hy' : y = .agg #[.slice r1 0 r2, .slice r3 0 r4, .bool false, .slice r5 0 r6] := hy
    subst hy'
    obtain ⟨W3, HW3, hgA3, B3⟩ := alloc_namedR w3 (.cells #[.slice r1 0 r2, .slice r3 0 r4, .bool false, .slice r5 0 r6] 41)
    have hg23 := grown_trans hg3 hgA3
    have hg13 := grown_trans hg12 hg23
    clear h3 hy c0 c1 c2 c3 c4
    go_upto_region 4 with fail
    rw [← HW3.out]
    obtain ⟨YB, hYB⟩ : ∃ YB, YB = w3.heap.size := ⟨_, rfl⟩
    rw [← hYB] at B3 ⊢
    clear hYB HW3
    obtain ⟨⟨c0, c1, c2, c3, c4⟩, hfz, _⟩ := five_room hg13 B1.out
    clear hfz
    obtain ⟨⟨d0, d1, d2, d3⟩, _⟩ := quad_room hg23 B2.out
    obtain ⟨⟨e0, e1, e2, e3⟩, _⟩ := quad_room (grown_refl W3 none) B3.out
    go_wp2
    go_ret
    exact ⟨rfl, grown_trans hg0 (grown_trans hg01 hg13)⟩
end Go.Proofs.YtghjikifflpeiabDoor
