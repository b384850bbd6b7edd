/-
  The walk of canopykeep.WireBack, over what the code must keep.
-/
import Derived.Test.YtghjikifflpeiaaDoorRqEn
import Derived.Test.YtghjikifflpeiaaDoorRqDe
import Derived.Test.YtghjikifflpeiaaDoorKReq
import Derived.Test.YtghjikifflpeiaaDoorKSame
namespace Go.Proofs.YtghjikifflpeiaaDoor
open Go.RowKit
set_option maxRecDepth 100000 in
set_option maxHeartbeats 4000000 in
theorem wireBack_walk (hE : RqEncOK) (hD : RqDecOK) (w : World) (v : Value) (c : Rq) (tl : UInt8) (hT : PrtT w) (hv : RqIs w v c) (hf : RqFits c) :
    Calls Tryd.prog 8 #[v, .int .u8 (tl.toNat : Int)] w fun e w' => e = .returned (.bool true) ∧ w.grownBy w' none := by
  obtain ⟨n1, n2, k1, k2, l1, l2, v1, v2, rfl⟩ := hv.agg
  obtain ⟨W0, HW0, hg0, B0⟩ := alloc_namedR w (.cells #[.int .i64 c.kind, .slice n1 c.name.length n2, .slice k1 c.key.length k2, .slice l1 c.last.length l2, .slice v1 c.value.length v2] 48)
  obtain ⟨⟨c0, c1, c2, c3, c4⟩, hfz, _⟩ := five_room (grown_refl W0 none) B0.out
  clear hfz
  have HT : Hid (PrtT W0) := hT.grown hg0
  have KR : Hid (Calls Tryd.prog 25 #[.agg #[.int .i64 c.kind, .slice n1 c.name.length n2, .slice k1 c.key.length k2, .slice l1 c.last.length l2, .slice v1 c.value.length v2]] W0 fun e w' => ∃ k : Nat, k < 8 ∧ ∃ x, e = .returned x ∧ RqIs w' x (rqOf k c.name c.key c.last c.value) ∧ W0.grownBy w' none) := kreq_any W0 _ c (hv.grown hg0) hf
  have HOK : Hid (∀ k, k < 8 → RqOK (rqOf k c.name c.key c.last c.value)) := fun k hk => rqOf_ok k hk _ _ _ _
  have HE : Hid RqEncOK := hE
  have HD : Hid RqDecOK := hD
  clear hE hD
  clear hv hf hT
  generalize c.kind = CK at *
  generalize c.name.length = x0 at *
  generalize c.key.length = x1 at *
  generalize c.last.length = x2 at *
  generalize c.value.length = x3 at *
  go_enter Tryd.func8, Tryd.ntmps8
  go_upto_region 1 with fail
  rw [← HW0.out]
  obtain ⟨IB, hIB⟩ : ∃ IB, IB = w.heap.size := ⟨_, rfl⟩
  rw [← hIB] at B0 c0 c1 c2 c3 c4 ⊢
  clear hIB HW0
  go_wp2_with fail
  refine KR.out.mono ?_
  rintro e w1 ⟨k, hk, x, rfl, h1, hg1⟩
  have ho := HOK.out k hk
  obtain ⟨P, hP⟩ : ∃ P, P = rqOf k c.name c.key c.last c.value := ⟨_, rfl⟩
  rw [← hP] at h1 ho
  have HP : Hid (RqOK P) := ho
  clear hk hP HOK KR ho
  obtain ⟨p1, p2, p3, p4, p5, p6, p7, p8, rfl⟩ := h1.agg
  obtain ⟨W1, HW1, hgA1, B1⟩ := alloc_namedR w1 (.cells #[.int .i64 P.kind, .slice p1 P.name.length p2, .slice p3 P.key.length p4, .slice p5 P.last.length p6, .slice p7 P.value.length p8] 24)
  have HY : Hid (RqIs W1 (.agg #[.int .i64 P.kind, .slice p1 P.name.length p2, .slice p3 P.key.length p4, .slice p5 P.last.length p6, .slice p7 P.value.length p8]) P) := h1.grown hgA1
  have hg01 := grown_trans hg1 hgA1
  clear h1 c0 c1 c2 c3 c4
  go_upto_region 2 with fail
  rw [← HW1.out]
  obtain ⟨JB, hJB⟩ : ∃ JB, JB = w1.heap.size := ⟨_, rfl⟩
  rw [← hJB] at B1 ⊢
  clear hJB HW1
  obtain ⟨⟨c0, c1, c2, c3, c4⟩, hfz, _⟩ := five_room (grown_refl W1 none) B1.out
  clear hfz
  have hz := (req_iff P).2 HP.out
  obtain ⟨q1, q2⟩ := req_back HP.out
  have q3 := req_more HP.out [tl] (by simp) (by simp)
  have hlen := reqB_len HP.out
  have EN : Hid (Calls Tryd.prog 12 #[.agg #[.int .i64 P.kind, .slice p1 P.name.length p2, .slice p3 P.key.length p4, .slice p5 P.last.length p6, .slice p7 P.value.length p8]] W1 fun e w' => ∃ x, e = .returned (.tuple #[x, .int .i64 0]) ∧ SliceIs w' x (reqB P) ∧ W1.grownBy w' none) := by
    have h := HE.out W1 _ P (HT.out.grown hg01) HY.out (rq_fits HP.out)
    rw [hz, show rencB P = reqB P by rw [rencB, if_pos hz]] at h
    exact h
  have DE : Hid (∀ w' u, W0.grownBy w' none → SliceIs w' u (reqB P) → Calls Tryd.prog 15 #[u] w' fun e w'' => ∃ x, e = .returned (.tuple #[x, .int .i64 0]) ∧ RqIs w'' x P ∧ w'.grownBy w'' none) := fun w' u hg h => by
    have h := HD.out w' u _ (HT.out.grown hg) h (by omega)
    rw [q1, q2] at h
    exact h
  have DM : Hid (∀ w' u, W0.grownBy w' none → SliceIs w' u (reqB P ++ [tl]) → Calls Tryd.prog 15 #[u] w' fun e w'' => ∃ x, e = .returned (.tuple #[x, .int .i64 4]) ∧ RqIs w'' x (wdecR (reqB P ++ [tl])) ∧ w'.grownBy w'' none) := fun w' u hg h => by
    have h := HD.out w' u _ (HT.out.grown hg) h (by rw [List.length_append]; simp; omega)
    rw [q3] at h
    exact h
  generalize wdecR (reqB P ++ [tl]) = R4 at *
  obtain ⟨BB, hBB⟩ : ∃ BB, BB = reqB P := ⟨_, rfl⟩
  rw [← hBB] at EN DE DM hlen
  clear hz q1 q2 q3 hBB HE HD HP
  go_wp2_with fail
  refine EN.out.mono ?_
  rintro e w2 ⟨y, rfl, h2, hg2⟩
  have HB : Hid (SliceIs w2 y BB) := h2
  obtain ⟨ya, yc, rfl⟩ := h2.shape
  have hg02 := grown_trans hg01 hg2
  clear h2 c0 c1 c2 c3 c4
  go_wp2_with fail
  refine (DE.out _ _ hg02 HB.out).mono ?_
  rintro e w3 ⟨u, rfl, h3, hg3⟩
  obtain ⟨q1, q2, q3, q4, q5, q6, q7, q8, rfl⟩ := h3.agg
  obtain ⟨W3, HW3, hgA3, B3⟩ := alloc_namedR w3 (.cells #[.int .i64 P.kind, .slice q1 P.name.length q2, .slice q3 P.key.length q4, .slice q5 P.last.length q6, .slice q7 P.value.length q8] 24)
  have HU : Hid (RqIs W3 (.agg #[.int .i64 P.kind, .slice q1 P.name.length q2, .slice q3 P.key.length q4, .slice q5 P.last.length q6, .slice q7 P.value.length q8]) P) := h3.grown hgA3
  have hg23 := grown_trans hg3 hgA3
  have hg03 := grown_trans hg02 hg23
  have HB3 : Hid (SliceIs W3 (.slice ya BB.length yc) BB) := HB.out.grown hg23
  clear h3
  go_upto_region 4 with fail
  rw [← HW3.out]
  obtain ⟨MB, hMB⟩ : ∃ MB, MB = w3.heap.size := ⟨_, rfl⟩
  rw [← hMB] at B3 ⊢
  clear hMB HW3
  go_wp2_with (at_builtin; first
    | (refine wpList_append_bytes rfl _ _ rfl W3.heap.size (.slice none 0 0) [] rfl (own_nil _ _) ya BB.length yc BB rfl HB3.out (by simp; omega) (Nat.le_refl _) ?_; intro v4 w4 ho4 hg4; rw [List.nil_append] at ho4; have HO4 : Hid (Own W3.heap.size (w4.alloc (.cells #[.int .u8 (tl.toNat : Int)] 5)) v4 BB) := ho4.alloc _; have hg34 : W3.grownBy (w4.alloc (.cells #[.int .u8 (tl.toNat : Int)] 5)) none := grown_alloc hg4 _; have HZ4 : Hid (SliceIs (w4.alloc (.cells #[.int .u8 (tl.toNat : Int)] 5)) (.slice (some ⟨w4.heap.size, 0, none⟩) 1 1) [tl]) := one_slice w4 tl 5; obtain ⟨a4, c4, rfl⟩ := ho4.shape; have hs4 := hg34.size; clear ho4 hg4)
    | (refine wpList_append_bytes rfl _ _ rfl W3.heap.size (.slice a4 BB.length c4) BB rfl HO4.out (some ⟨w4.heap.size, 0, none⟩) 1 1 [tl] rfl HZ4.out (by omega) hs4 ?_; intro v5 w5 ho5 hg5; have HO5 : Hid (SliceIs w5 v5 (BB ++ [tl])) := ho5.slice; have hg35 : W3.grownBy w5 none := grown_own hg34 HO4.out hg5; obtain ⟨a5, c5, rfl⟩ := ho5.shape; rw [List.length_append, List.length_singleton] at HO5; clear ho5 hg5))
  refine (DM.out _ _ (grown_trans hg03 hg35) HO5.out).mono ?_
  rintro e w6 ⟨z, rfl, h6, hg6⟩
  obtain ⟨r1, r2, r3, r4, r5, r6, r7, r8, rfl⟩ := h6.agg
  obtain ⟨W6, HW6, hgA6, B6⟩ := alloc_namedR w6 (.cells #[.int .i64 R4.kind, .slice r1 R4.name.length r2, .slice r3 R4.key.length r4, .slice r5 R4.last.length r6, .slice r7 R4.value.length r8] 24)
  have hg36 := grown_trans hg35 (grown_trans hg6 hgA6)
  have hg16 := grown_trans (grown_trans hg2 hg23) hg36
  clear h6
  go_upto_region 5 with fail
  rw [← HW6.out]
  clear B6 HW6
  obtain ⟨⟨c0, c1, c2, c3, c4⟩, hfz, _⟩ := five_room hg16 B1.out
  clear hfz
  obtain ⟨⟨d0, d1, d2, d3, d4⟩, hfz, _⟩ := five_room hg36 B3.out
  clear hfz
  obtain ⟨_, S0, S1, S2, S3⟩ := (HY.out.grown hg16).parts
  obtain ⟨_, T0, T1, T2, T3⟩ := (HU.out.grown hg36).parts
  have Q0 : Hid (Calls Tryd.prog 26 #[.slice q1 P.name.length q2, .slice p1 P.name.length p2] W6 fun e w' => e = .returned (.bool true) ∧ w' = W6) := by
    have := same_any W6 _ _ _ _ T0 S0
    rw [decide_eq_true rfl] at this
    exact this
  have Q1 : Hid (Calls Tryd.prog 26 #[.slice q3 P.key.length q4, .slice p3 P.key.length p4] W6 fun e w' => e = .returned (.bool true) ∧ w' = W6) := by
    have := same_any W6 _ _ _ _ T1 S1
    rw [decide_eq_true rfl] at this
    exact this
  have Q2 : Hid (Calls Tryd.prog 26 #[.slice q5 P.last.length q6, .slice p5 P.last.length p6] W6 fun e w' => e = .returned (.bool true) ∧ w' = W6) := by
    have := same_any W6 _ _ _ _ T2 S2
    rw [decide_eq_true rfl] at this
    exact this
  have Q3 : Hid (Calls Tryd.prog 26 #[.slice q7 P.value.length q8, .slice p7 P.value.length p8] W6 fun e w' => e = .returned (.bool true) ∧ w' = W6) := by
    have := same_any W6 _ _ _ _ T3 S3
    rw [decide_eq_true rfl] at this
    exact this
  have hkk : (P.kind == P.kind) = true := by simp
  clear S0 S1 S2 S3 T0 T1 T2 T3
  generalize P.kind = PK at *
  generalize P.name.length = y0 at *
  generalize P.key.length = y1 at *
  generalize P.last.length = y2 at *
  generalize P.value.length = y3 at *
  go_wp2_with fail
  refine Q0.out.mono ?_
  rintro e w7 ⟨rfl, hw⟩
  rw [hw]
  clear hw
  go_wp2_with fail
  refine Q1.out.mono ?_
  rintro e w7 ⟨rfl, hw⟩
  rw [hw]
  clear hw
  go_wp2_with fail
  refine Q2.out.mono ?_
  rintro e w7 ⟨rfl, hw⟩
  rw [hw]
  clear hw
  go_wp2_with fail
  refine Q3.out.mono ?_
  rintro e w7 ⟨rfl, hw⟩
  rw [hw]
  clear hw
  go_wp2
  go_ret
  exact ⟨rfl, grown_trans hg0 (grown_trans hg01 hg16)⟩
end Go.Proofs.YtghjikifflpeiaaDoor
