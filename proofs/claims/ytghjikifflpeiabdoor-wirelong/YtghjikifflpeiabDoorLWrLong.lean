/-
  The walk of canopykeep.WireLong, over what the code must keep.
-/
import Derived.Test.YtghjikifflpeiabDoorRqCk
import Derived.Test.YtghjikifflpeiabDoorKReq
import Derived.Test.YtghjikifflpeiabDoorPicked
namespace Go.Proofs.YtghjikifflpeiabDoor
open Go.RowKit
/-- A slice that lies in a later block stands while an elder one turns. -/
theorem slice_newer {w : World} {b j i n cap : Nat} {bs : List UInt8} {u : Value} (h : SliceIs w (.slice (some ⟨b, 0, none⟩) n cap) bs) (hj : j < b) : SliceIs (w.setCell ⟨j, i, none⟩ u) (.slice (some ⟨b, 0, none⟩) n cap) bs := by
  obtain ⟨a, cap', e, hc, h⟩ := h
  simp only [Value.slice.injEq] at e
  obtain ⟨rfl, rfl, rfl⟩ := e
  refine ⟨_, cap, rfl, hc, ?_⟩
  rcases h with h | ⟨b', o, e, h⟩
  · exact .inl h
  · simp only [Option.some.injEq, Addr.mk.injEq] at e
    obtain ⟨rfl, rfl, _⟩ := e
    exact .inr ⟨b, 0, rfl, h.grown (grown_set (grown_refl w _) i u) (by simp; omega)⟩
set_option maxRecDepth 100000 in
set_option maxHeartbeats 4000000 in
theorem wireLong_walk (hC : RqCheckOK) (w : World) (v : Value) (c : Rq) (wh : Int) (hT : PrtT w) (hv : RqIs w v c) (hf : RqFits c) (hn0 : -9223372036854775808 ≤ wh) (hn1 : wh ≤ 9223372036854775807) :
    Calls Tryd.prog 6 #[v, .int .i64 wh] w fun e w' => e = .returned (.bool true) ∧ w.grownBy w' none := by
  obtain ⟨n1, n2, k1, k2, l1, l2, v1, v2, rfl⟩ := hv.agg
  obtain ⟨W0, HW0, hg0, B0⟩ := alloc_namedR w (.cells #[.int .i64 c.kind, .slice n1 c.name.length n2, .slice k1 c.key.length k2, .slice l1 c.last.length l2, .slice v1 c.value.length v2] 32)
  obtain ⟨⟨c0, c1, c2, c3, c4⟩, hfz, _⟩ := five_room (grown_refl W0 none) B0.out
  clear hfz
  have HT : Hid (PrtT W0) := hT.grown hg0
  have KR : Hid (Calls Tryd.prog 10 #[.agg #[.int .i64 c.kind, .slice n1 c.name.length n2, .slice k1 c.key.length k2, .slice l1 c.last.length l2, .slice v1 c.value.length v2]] W0 fun e w' => ∃ k : Nat, k < 8 ∧ ∃ x, e = .returned x ∧ RqIs w' x (rqOf k c.name c.key c.last c.value) ∧ W0.grownBy w' none) := kreq_any W0 _ c (hv.grown hg0) hf
  have HOK : Hid (∀ k, k < 8 → RqOK (rqOf k c.name c.key c.last c.value)) := fun k hk => rqOf_ok k hk _ _ _ _
  have HC : Hid RqCheckOK := hC
  have PK3 : Hid (∀ w', Calls Tryd.prog 11 #[.int .i64 wh, .int .i64 3] w' fun e w'' => ∃ k : Nat, e = .returned (.int .i64 (k : Int)) ∧ (k : Int) < 3 ∧ w'' = w') := fun w' => picked_any wh 3 w' hn0 hn1 (by omega) (by omega)
  have PK9 : Hid (∀ w', Calls Tryd.prog 11 #[.int .i64 wh, .int .i64 9] w' fun e w'' => ∃ k : Nat, e = .returned (.int .i64 (k : Int)) ∧ (k : Int) < 9 ∧ w'' = w') := fun w' => picked_any wh 9 w' hn0 hn1 (by omega) (by omega)
  clear hC hn0 hn1
  clear hv hf hT
  generalize c.kind = CK at *
  generalize c.name.length = x0 at *
  generalize c.key.length = x1 at *
  generalize c.last.length = x2 at *
  generalize c.value.length = x3 at *
  go_enter Tryd.func6, Tryd.ntmps6
  go_upto_region 1 with fail
  rw [← HW0.out]
  obtain ⟨IB, hIB⟩ : ∃ IB, IB = w.heap.size := ⟨_, rfl⟩
  rw [← hIB] at B0 c0 c1 c2 c3 c4 ⊢
  clear hIB HW0
  go_wp2_with fail
  refine KR.out.mono ?_
  rintro e w1 ⟨k, hk, x, rfl, h1, hg1⟩
  have ho := HOK.out k hk
  obtain ⟨P, hP⟩ : ∃ P, P = rqOf k c.name c.key c.last c.value := ⟨_, rfl⟩
  rw [← hP] at h1 ho
  have HP : Hid (RqOK P) := ho
  clear hk hP HOK KR ho
  obtain ⟨p1, p2, p3, p4, p5, p6, p7, p8, rfl⟩ := h1.agg
  obtain ⟨W1, HW1, hgA1, B1⟩ := alloc_namedR w1 (.cells #[.int .i64 P.kind, .slice p1 P.name.length p2, .slice p3 P.key.length p4, .slice p5 P.last.length p6, .slice p7 P.value.length p8] 24)
  have HY : Hid (RqIs W1 (.agg #[.int .i64 P.kind, .slice p1 P.name.length p2, .slice p3 P.key.length p4, .slice p5 P.last.length p6, .slice p7 P.value.length p8]) P) := h1.grown hgA1
  have hg01 := grown_trans hg1 hgA1
  have HY1 : Hid (RqIs w1 (.agg #[.int .i64 P.kind, .slice p1 P.name.length p2, .slice p3 P.key.length p4, .slice p5 P.last.length p6, .slice p7 P.value.length p8]) P) := h1
  have HJ : Hid (∀ w', W1.grownBy w' none → ∀ i u, w1.grownBy (w'.setCell ⟨w1.heap.size, i, none⟩ u) none) := fun w' h i u => grown_setNew (grown_trans hgA1 h) _ (Nat.le_refl _) _ _
  clear h1 c0 c1 c2 c3 c4
  go_upto_region 2 with fail
  rw [← HW1.out]
  obtain ⟨JB, hJB⟩ : ∃ JB, JB = w1.heap.size := ⟨_, rfl⟩
  have HJL : Hid (w1.heap.size ≤ JB) := by show _ ≤ _; rw [hJB]; exact Nat.le_refl _
  rw [← hJB] at B1 HJ ⊢
  clear hJB HW1
  obtain ⟨⟨c0, c1, c2, c3, c4⟩, hfz, _⟩ := five_room (grown_refl W1 none) B1.out
  clear hfz
  have hz := (req_iff P).2 HP.out
  have CK0 : Hid (Calls Tryd.prog 14 #[.agg #[.int .i64 P.kind, .slice p1 P.name.length p2, .slice p3 P.key.length p4, .slice p5 P.last.length p6, .slice p7 P.value.length p8]] W1 fun e w' => e = .returned (.int .i64 0) ∧ W1.grownBy w' none) := by
    have h := HC.out W1 _ P (HT.out.grown hg01) HY.out (rq_fits HP.out)
    rw [hz] at h
    exact h
  clear hz
  go_wp2_with fail
  refine CK0.out.mono ?_
  rintro e w2 ⟨rfl, hg2⟩
  have hg02 := grown_trans hg01 hg2
  clear c0 c1 c2 c3 c4
  go_wp2_with fail
  refine (PK3.out _).mono ?_
  rintro e w3 ⟨j, rfl, hj, hw⟩
  rw [hw]
  clear hw w3
  obtain ⟨⟨c0, c1, c2, c3, c4⟩, ⟨f0, f1, f2, f3, f4⟩, hB2⟩ := five_room hg2 B1.out
  have HB2 : Hid (w2.heap[JB]? = some (.cells #[.int .i64 P.kind, .slice p1 P.name.length p2, .slice p3 P.key.length p4, .slice p5 P.last.length p6, .slice p7 P.value.length p8] 24)) := hB2
  obtain ⟨_, S0, S1, S2, S3⟩ := HY1.out.parts
  have HS0 : Hid (SliceIs w1 (.slice p1 P.name.length p2) P.name) := S0
  have HS1 : Hid (SliceIs w1 (.slice p3 P.key.length p4) P.key) := S1
  have HS2 : Hid (SliceIs w1 (.slice p5 P.last.length p6) P.last) := S2
  have HS3 : Hid (SliceIs w1 (.slice p7 P.value.length p8) P.value) := S3
  have hJs : JB < w2.heap.size := (Array.getElem?_eq_some_iff.1 hB2).1
  have HJs : Hid (JB < w2.heap.size) := hJs
  have hw1J : Hid (w1.heap.size ≤ JB) := HJL.out
  clear hB2 S0 S1 S2 S3 hJs
  have hj3 : j = 0 ∨ j = 1 ∨ j = 2 := by omega
  clear hj
  rcases hj3 with rfl | rfl | rfl
  · have mk := make_bytes w2 33 33 rfl (by omega)
    have hgm : W1.grownBy (w2.alloc (.cells (bytesOf (zeros 33)) 5)) none := grown_alloc hg2 _
    have HZS : Hid (SliceIs (w2.alloc (.cells (bytesOf (zeros 33)) 5)) (.slice (some ⟨w2.heap.size, 0, none⟩) 33 33) (zeros 33)) := by
      have h := (Bytes.new w2 5 (zeros 33)).slice 33 (by simp [zeros])
      rw [zeros_len] at h
      exact h
    obtain ⟨⟨c0, c1, c2, c3, c4⟩, ⟨f0, f1, f2, f3, f4⟩, _⟩ := five_room hgm B1.out
    have hz33 : (zeros 33).length = 33 := zeros_len 33
    obtain ⟨V, HV⟩ : ∃ V : World, Hid (V = (w2.alloc (.cells (bytesOf (zeros 33)) 5)).setCell ⟨JB, 4, none⟩ (.slice (some ⟨w2.heap.size, 0, none⟩) 33 33)) := ⟨_, rfl⟩
    have hgV1 : w1.grownBy V none := by rw [HV.out]; exact HJ.out _ hgm _ _
    have hgV0 : w.grownBy V none := grown_trans hg0 (grown_trans hg1 hgV1)
    have BV : Hid (V.heap[JB]? = some (.cells #[.int .i64 P.kind, .slice p1 P.name.length p2, .slice p3 P.key.length p4, .slice p5 P.last.length p6, .slice (some ⟨w2.heap.size, 0, none⟩) 33 33] 24)) := by rw [HV.out]; exact set_selfR (pair_old hgm B1.out)
    have HRV : Hid (RqIs V (.agg #[.int .i64 P.kind, .slice p1 P.name.length p2, .slice p3 P.key.length p4, .slice p5 P.last.length p6, .slice (some ⟨w2.heap.size, 0, none⟩) 33 33]) ⟨P.kind, P.name, P.key, P.last, zeros 33⟩) := ⟨_, _, _, _, rfl, HS0.out.grown hgV1, HS1.out.grown hgV1, HS2.out.grown hgV1, by rw [HV.out]; exact slice_newer HZS.out HJs.out⟩
    have CKV : Hid (Calls Tryd.prog 14 #[.agg #[.int .i64 P.kind, .slice p1 P.name.length p2, .slice p3 P.key.length p4, .slice p5 P.last.length p6, .slice (some ⟨w2.heap.size, 0, none⟩) 33 33]] V fun e w' => e = .returned (.int .i64 1) ∧ V.grownBy w' none) := by
      have h := HC.out V _ _ (HT.out.grown (grown_trans hg1 hgV1)) HRV.out (by
        have hff := rq_fits HP.out
        obtain ⟨q0, q1, q2, q3, q4⟩ := hff
        exact ⟨q0, q1, q2, q3, by show (zeros 33).length ≤ _; rw [zeros_len]; omega⟩)
      rw [long_value HP.out (zeros 33) (by rw [zeros_len]; omega)] at h
      exact h
    clear HC HP
    generalize hbz : bytesOf (zeros 33) = bz at *
    clear hbz
    go_upto_region 7 with fail
    rw [← HV.out]
    clear c0 c1 c2 c3 c4 f0 f1 f2 f3 f4
    obtain ⟨⟨c0, c1, c2, c3, c4⟩, hfz, _⟩ := five_room (grown_refl V none) BV.out
    clear hfz mk
    go_wp2_with fail
    refine CKV.out.mono ?_
    rintro e w5 ⟨rfl, hg5⟩
    go_wp2
    go_ret
    exact ⟨rfl, grown_trans hgV0 hg5⟩
  · go_wp2_with fail
    refine (PK9.out _).mono ?_
    rintro e w3 ⟨i, rfl, hi, hw⟩
    rw [hw]
    clear hw w3
    obtain ⟨V, HV⟩ : ∃ V : World, Hid (V = w2.setCell ⟨JB, 0, none⟩ (.int .i64 (9 + (i : Int)))) := ⟨_, rfl⟩
    have hgV1 : w1.grownBy V none := by rw [HV.out]; exact HJ.out _ hg2 _ _
    have hgV0 : w.grownBy V none := grown_trans hg0 (grown_trans hg1 hgV1)
    have BV : Hid (V.heap[JB]? = some (.cells #[.int .i64 (9 + (i : Int)), .slice p1 P.name.length p2, .slice p3 P.key.length p4, .slice p5 P.last.length p6, .slice p7 P.value.length p8] 24)) := by rw [HV.out]; exact set_selfR (pair_old hg2 B1.out)
    have HRV : Hid (RqIs V (.agg #[.int .i64 (9 + (i : Int)), .slice p1 P.name.length p2, .slice p3 P.key.length p4, .slice p5 P.last.length p6, .slice p7 P.value.length p8]) ⟨9 + (i : Int), P.name, P.key, P.last, P.value⟩) := ⟨_, _, _, _, rfl, HS0.out.grown hgV1, HS1.out.grown hgV1, HS2.out.grown hgV1, HS3.out.grown hgV1⟩
    have CKV : Hid (Calls Tryd.prog 14 #[.agg #[.int .i64 (9 + (i : Int)), .slice p1 P.name.length p2, .slice p3 P.key.length p4, .slice p5 P.last.length p6, .slice p7 P.value.length p8]] V fun e w' => e = .returned (.int .i64 5) ∧ V.grownBy w' none) := by
      have h := HC.out V _ _ (HT.out.grown (grown_trans hg1 hgV1)) HRV.out (by
        have hff := rq_fits HP.out
        obtain ⟨q0, q1, q2, q3, q4⟩ := hff
        exact ⟨by show -9223372036854775808 ≤ 9 + (i : Int) ∧ 9 + (i : Int) ≤ 9223372036854775807; omega, q1, q2, q3, q4⟩)
      rw [long_kind P (9 + (i : Int)) (by omega)] at h
      exact h
    clear HC HP
    go_upto_region 10 with fail
    rw [← HV.out]
    clear c0 c1 c2 c3 c4 f0 f1 f2 f3 f4
    obtain ⟨⟨c0, c1, c2, c3, c4⟩, hfz, _⟩ := five_room (grown_refl V none) BV.out
    clear hfz
    go_wp2_with fail
    refine CKV.out.mono ?_
    rintro e w5 ⟨rfl, hg5⟩
    go_wp2
    go_ret
    exact ⟨rfl, grown_trans hgV0 hg5⟩
  · obtain ⟨W4, HW4, hgA4, B4⟩ := alloc_namedR w2 (.cells #[.int .u8 1] 5)
    have hgm : W1.grownBy W4 none := grown_trans hg2 hgA4
    have HZS : Hid (SliceIs W4 (.slice (some ⟨w2.heap.size, 0, none⟩) 1 1) [1]) := by rw [HW4.out]; exact one_slice w2 1 5
    by_cases hk3 : P.kind = 3
    · have i3 : (P.kind == 3) = true := by simp [hk3]
      obtain ⟨V, HV⟩ : ∃ V : World, Hid (V = W4.setCell ⟨JB, 4, none⟩ (.slice (some ⟨w2.heap.size, 0, none⟩) 1 1)) := ⟨_, rfl⟩
      have hgV1 : w1.grownBy V none := by rw [HV.out]; exact HJ.out _ hgm _ _
      have hgV0 : w.grownBy V none := grown_trans hg0 (grown_trans hg1 hgV1)
      have BV : Hid (V.heap[JB]? = some (.cells #[.int .i64 P.kind, .slice p1 P.name.length p2, .slice p3 P.key.length p4, .slice p5 P.last.length p6, .slice (some ⟨w2.heap.size, 0, none⟩) 1 1] 24)) := by rw [HV.out]; exact set_selfR (pair_old hgm B1.out)
      have HRV : Hid (RqIs V (.agg #[.int .i64 P.kind, .slice p1 P.name.length p2, .slice p3 P.key.length p4, .slice p5 P.last.length p6, .slice (some ⟨w2.heap.size, 0, none⟩) 1 1]) ⟨P.kind, P.name, P.key, P.last, [1]⟩) := ⟨_, _, _, _, rfl, HS0.out.grown hgV1, HS1.out.grown hgV1, HS2.out.grown hgV1, by rw [HV.out]; exact slice_newer HZS.out HJs.out⟩
      have CKV : Hid (Calls Tryd.prog 14 #[.agg #[.int .i64 P.kind, .slice p1 P.name.length p2, .slice p3 P.key.length p4, .slice p5 P.last.length p6, .slice (some ⟨w2.heap.size, 0, none⟩) 1 1]] V fun e w' => e = .returned (.int .i64 4) ∧ V.grownBy w' none) := by
        have h := HC.out V _ _ (HT.out.grown (grown_trans hg1 hgV1)) HRV.out (by
          have hff := rq_fits HP.out
          obtain ⟨q0, q1, q2, q3, q4⟩ := hff
          exact ⟨q0, q1, q2, q3, by simp⟩)
        rw [long_scan HP.out hk3 1] at h
        exact h
      clear HC HP hk3
      generalize P.kind = PKd at *
      have hgm2 : W1.grownBy (w2.alloc (.cells #[.int .u8 1] 5)) none := by rw [← HW4.out]; exact hgm
      obtain ⟨⟨d0, d1, d2, d3, d4⟩, ⟨g0, g1, g2, g3, g4⟩, _⟩ := five_room hgm2 B1.out
      go_upto_region 14 with fail
      rw [← HW4.out, ← HV.out]
      clear c0 c1 c2 c3 c4 f0 f1 f2 f3 f4 d0 d1 d2 d3 d4 g0 g1 g2 g3 g4
      obtain ⟨⟨c0, c1, c2, c3, c4⟩, hfz, _⟩ := five_room (grown_refl V none) BV.out
      clear hfz
      go_wp2_with fail
      refine CKV.out.mono ?_
      rintro e w5 ⟨rfl, hg5⟩
      go_wp2
      go_ret
      exact ⟨rfl, grown_trans hgV0 hg5⟩
    · have i3 : (P.kind == 3) = false := by simp [hk3]
      obtain ⟨V, HV⟩ : ∃ V : World, Hid (V = W4.setCell ⟨JB, 3, none⟩ (.slice (some ⟨w2.heap.size, 0, none⟩) 1 1)) := ⟨_, rfl⟩
      have hgV1 : w1.grownBy V none := by rw [HV.out]; exact HJ.out _ hgm _ _
      have hgV0 : w.grownBy V none := grown_trans hg0 (grown_trans hg1 hgV1)
      have BV : Hid (V.heap[JB]? = some (.cells #[.int .i64 P.kind, .slice p1 P.name.length p2, .slice p3 P.key.length p4, .slice (some ⟨w2.heap.size, 0, none⟩) 1 1, .slice p7 P.value.length p8] 24)) := by rw [HV.out]; exact set_selfR (pair_old hgm B1.out)
      have HRV : Hid (RqIs V (.agg #[.int .i64 P.kind, .slice p1 P.name.length p2, .slice p3 P.key.length p4, .slice (some ⟨w2.heap.size, 0, none⟩) 1 1, .slice p7 P.value.length p8]) ⟨P.kind, P.name, P.key, [1], P.value⟩) := ⟨_, _, _, _, rfl, HS0.out.grown hgV1, HS1.out.grown hgV1, by rw [HV.out]; exact slice_newer HZS.out HJs.out, HS3.out.grown hgV1⟩
      have CKV : Hid (Calls Tryd.prog 14 #[.agg #[.int .i64 P.kind, .slice p1 P.name.length p2, .slice p3 P.key.length p4, .slice (some ⟨w2.heap.size, 0, none⟩) 1 1, .slice p7 P.value.length p8]] V fun e w' => e = .returned (.int .i64 4) ∧ V.grownBy w' none) := by
        have h := HC.out V _ _ (HT.out.grown (grown_trans hg1 hgV1)) HRV.out (by
          have hff := rq_fits HP.out
          obtain ⟨q0, q1, q2, q3, q4⟩ := hff
          exact ⟨q0, q1, q2, by simp, q4⟩)
        rw [long_last HP.out hk3 1] at h
        exact h
      clear HC HP hk3
      generalize P.kind = PKd at *
      have hgm2 : W1.grownBy (w2.alloc (.cells #[.int .u8 1] 5)) none := by rw [← HW4.out]; exact hgm
      obtain ⟨⟨d0, d1, d2, d3, d4⟩, ⟨g0, g1, g2, g3, g4⟩, _⟩ := five_room hgm2 B1.out
      go_upto_region 14 with fail
      rw [← HW4.out, ← HV.out]
      clear c0 c1 c2 c3 c4 f0 f1 f2 f3 f4 d0 d1 d2 d3 d4 g0 g1 g2 g3 g4
      obtain ⟨⟨c0, c1, c2, c3, c4⟩, hfz, _⟩ := five_room (grown_refl V none) BV.out
      clear hfz
      go_wp2_with fail
      refine CKV.out.mono ?_
      rintro e w5 ⟨rfl, hg5⟩
      go_wp2
      go_ret
      exact ⟨rfl, grown_trans hgV0 hg5⟩
end Go.Proofs.YtghjikifflpeiabDoor
