/-
  wire.Encode, as it landed, keeps P9.3.
-/
import Derived.Test.YtghjikifflpeiabDoorWrEnF
import Derived.Test.YtghjikifflpeiabDoorWrCkP
namespace Go.Proofs.YtghjikifflpeiabDoor
open Go.RowKit
theorem own_drewN {base : Nat} {w : World} {v : Value} {bs : List UInt8} (h : Own base w v bs) (n : Nat) : Own base (w.drewN n) v bs := h
set_option maxRecDepth 100000 in
set_option maxHeartbeats 2000000 in
theorem rqenc_ok : RqEncOK := by
  intro w v r hT hv hf
  obtain ⟨n1, n2, k1, k2, l1, l2, v1, v2, rfl⟩ := hv.agg
  obtain ⟨W0, HW0, hg0, B0⟩ := alloc_namedR w (.cells #[.int .i64 r.kind, .slice n1 r.name.length n2, .slice k1 r.key.length k2, .slice l1 r.last.length l2, .slice v1 r.value.length v2] 24)
  obtain ⟨⟨c0, c1, c2, c3, c4⟩, hfz, _⟩ := five_room (grown_refl W0 none) B0.out
  clear hfz
  have CK : Hid (Calls Tryd.prog 14 #[.agg #[.int .i64 r.kind, .slice n1 r.name.length n2, .slice k1 r.key.length k2, .slice l1 r.last.length l2, .slice v1 r.value.length v2]] W0 fun e w' => e = .returned (.int .i64 (reqE r)) ∧ W0.grownBy w' none) := rqcheck_ok W0 _ r (hT.grown hg0) (hv.grown hg0) hf
  by_cases hz : reqE r = 0
  · have ho := (req_iff r).1 hz
    have hk := ho.kind
    have HE : Hid (rencB r = encTo r 4) := by show _ = _; rw [rencB, if_pos hz, encTo_all]
    have HL : Hid (∀ m, (encTo r m).length ≤ 200) := encTo_len ho
    rw [hz] at CK ⊢
    obtain ⟨k, hK⟩ : ∃ k : Nat, r.kind = (k : Int) := ⟨r.kind.toNat, by omega⟩
    obtain ⟨_, S0, S1, S2, S3⟩ := hv.parts
    have HS0 : Hid (SliceIs w (.slice n1 r.name.length n2) r.name) := S0
    have HS1 : Hid (SliceIs w (.slice k1 r.key.length k2) r.key) := S1
    have HS2 : Hid (SliceIs w (.slice l1 r.last.length l2) r.last) := S2
    have HS3 : Hid (SliceIs w (.slice v1 r.value.length v2) r.value) := S3
    have HLE : Hid (r.name.length ≤ 140737488355328 ∧ r.key.length ≤ 140737488355328 ∧ r.last.length ≤ 140737488355328 ∧ r.value.length ≤ 140737488355328) := ⟨hf.name, hf.key, hf.last, hf.value⟩
    have H0 : Hid (∀ w', W0.grownBy w' none → Calls Tryd.prog 18 #[.int .i64 r.kind, .int .u8 1] w' fun e w'' => e = .returned (.bool (hasP r.kind 0)) ∧ w'' = w') := fun w' hg => by rw [hK]; exact has_any w' (hT.grown (grown_trans hg0 hg)) k 0 (by omega) (by omega)
    have H1 : Hid (∀ w', W0.grownBy w' none → Calls Tryd.prog 18 #[.int .i64 r.kind, .int .u8 2] w' fun e w'' => e = .returned (.bool (hasP r.kind 1)) ∧ w'' = w') := fun w' hg => by rw [hK]; exact has_any w' (hT.grown (grown_trans hg0 hg)) k 1 (by omega) (by omega)
    have H2 : Hid (∀ w', W0.grownBy w' none → Calls Tryd.prog 18 #[.int .i64 r.kind, .int .u8 4] w' fun e w'' => e = .returned (.bool (hasP r.kind 2)) ∧ w'' = w') := fun w' hg => by rw [hK]; exact has_any w' (hT.grown (grown_trans hg0 hg)) k 2 (by omega) (by omega)
    have H3 : Hid (∀ w', W0.grownBy w' none → Calls Tryd.prog 18 #[.int .i64 r.kind, .int .u8 8] w' fun e w'' => e = .returned (.bool (hasP r.kind 3)) ∧ w'' = w') := fun w' hg => by rw [hK]; exact has_any w' (hT.grown (grown_trans hg0 hg)) k 3 (by omega) (by omega)
    have HT0 : Hid (hasP r.kind 0 = true → encTo r 1 = encTo r 0 ++ [UInt8.ofNat r.name.length] ++ r.name) := fun h => by
      show encTo r 0 ++ partB (hasP r.kind 0) r.name = _
      rw [h, List.append_assoc]; rfl
    have HF0 : Hid (hasP r.kind 0 = false → encTo r 1 = encTo r 0) := fun h => by
      show encTo r 0 ++ partB (hasP r.kind 0) r.name = _
      rw [h]; exact List.append_nil _
    have HT1 : Hid (hasP r.kind 1 = true → encTo r 2 = encTo r 1 ++ [UInt8.ofNat r.key.length] ++ r.key) := fun h => by
      show encTo r 1 ++ partB (hasP r.kind 1) r.key = _
      rw [h, List.append_assoc]; rfl
    have HF1 : Hid (hasP r.kind 1 = false → encTo r 2 = encTo r 1) := fun h => by
      show encTo r 1 ++ partB (hasP r.kind 1) r.key = _
      rw [h]; exact List.append_nil _
    have HT2 : Hid (hasP r.kind 2 = true → encTo r 3 = encTo r 2 ++ [UInt8.ofNat r.last.length] ++ r.last) := fun h => by
      show encTo r 2 ++ partB (hasP r.kind 2) r.last = _
      rw [h, List.append_assoc]; rfl
    have HF2 : Hid (hasP r.kind 2 = false → encTo r 3 = encTo r 2) := fun h => by
      show encTo r 2 ++ partB (hasP r.kind 2) r.last = _
      rw [h]; exact List.append_nil _
    have HT3 : Hid (hasP r.kind 3 = true → encTo r 4 = encTo r 3 ++ [UInt8.ofNat r.value.length] ++ r.value) := fun h => by
      show encTo r 3 ++ partB (hasP r.kind 3) r.value = _
      rw [h, List.append_assoc]; rfl
    have HF3 : Hid (hasP r.kind 3 = false → encTo r 4 = encTo r 3) := fun h => by
      show encTo r 3 ++ partB (hasP r.kind 3) r.value = _
      rw [h]; exact List.append_nil _
    have TX : Hid (∀ w', Calls Tryd.prog 17 #[.agg #[.int .i64 r.kind, .slice n1 r.name.length n2, .slice k1 r.key.length k2, .slice l1 r.last.length l2, .slice v1 r.value.length v2]] w' fun e w'' => e = .returned (.agg #[.slice n1 r.name.length n2, .slice k1 r.key.length k2, .slice l1 r.last.length l2, .slice v1 r.value.length v2]) ∧ w'.grownBy w'' none) := fun w' => texts_any w' _ _ _ _ _ _ _ _ _ _ _ _ _
    obtain ⟨x0, hx0⟩ : ∃ x : Int, x = ((UInt8.ofNat r.kind.toNat).toNat : Int) := ⟨_, rfl⟩
    have hcv : IntKind.u8.wrap r.kind = x0 := by rw [hx0, hK]; simp [IntKind.wrap_u8]
    have hE0 : encTo r 0 = [UInt8.ofNat r.kind.toNat] := rfl
    obtain ⟨EC, hEC⟩ : ∃ EC, EC = encTo r := ⟨_, rfl⟩
    obtain ⟨G, hG⟩ : ∃ G, G = rencB r := ⟨_, rfl⟩
    rw [← hEC] at HE HL HT0 HT1 HT2 HT3 HF0 HF1 HF2 HF3 hE0
    rw [← hG] at HE ⊢
    have HE0 : Hid (EC 0 = [UInt8.ofNat r.kind.toNat]) := hE0
    have HX0 : Hid (x0 = ((UInt8.ofNat r.kind.toNat).toNat : Int)) := hx0
    clear hz hv hf hT hK hk ho S0 S1 S2 S3 hEC hG hE0 hx0
    generalize UInt8.ofNat r.kind.toNat = kb at *
    generalize r.kind = K at *
    generalize r.name = bn at *
    generalize r.key = bk at *
    generalize r.last = bl at *
    generalize r.value = bv at *
    go_enter Tryd.func8, Tryd.ntmps8
    go_upto_region 1 with fail
    rw [← HW0.out]
    obtain ⟨IB, hIB⟩ : ∃ IB, IB = w.heap.size := ⟨_, rfl⟩
    rw [← hIB] at B0 c0 c1 c2 c3 c4 ⊢
    clear hIB
    go_wp2_with fail
    refine CK.out.mono ?_
    rintro e w1 ⟨rfl, hg1⟩
    obtain ⟨⟨d0, d1, d2, d3, d4⟩, hfz, _⟩ := five_room hg1 B0.out
    clear hfz c0 c1 c2 c3 c4
    obtain ⟨W1, HW1, hgA1, BO⟩ := alloc_namedR w1 (.cells #[.int .u8 x0] 5)
    have hgw1 := grown_trans hg0 hg1
    have HO : Hid (Own W0.heap.size W1 (.slice (some ⟨w1.heap.size, 0, none⟩) 1 1) (EC 0)) := by
      have h1 := own_new W0.heap.size w1 [kb] hg1.size (by unfold maxLen; simp)
      rw [HE0.out, HW1.out, HX0.out]
      exact h1
    have hgw := grown_trans hg1 hgA1
    have HC0 : Hid (W0.cell? ⟨IB, 0, none⟩ = some (.int .i64 K)) := (five_room (grown_refl W0 none) B0.out).1.1
    go_upto_region 5 with fail
    rw [← HW1.out]
    obtain ⟨⟨e0, e1, e2, e3, e4⟩, hfz, _⟩ := five_room (grown_trans hg1 hgA1) B0.out
    clear hfz d0 d1 d2 d3 d4
    go_wp2_with fail
    refine (TX.out _).mono ?_
    rintro e w2 ⟨rfl, hg2⟩
    have HO2 : Hid (Own W0.heap.size w2 (.slice (some ⟨w1.heap.size, 0, none⟩) 1 1) (EC 0)) := HO.out.grownNone hg2
    have hgw2 := grown_trans hgw hg2
    clear e0 e1 e2 e3 e4 HO CK
    go_wp2_with fail
    go_loopw [19, 5] (fun iv ov wr => ∃ m : Nat, m ≤ 4 ∧ iv = .int .i64 (m : Int) ∧ Own W0.heap.size wr ov (EC m) ∧ W0.grownBy wr none) (fun iv _ _ => 4 - (intOf iv).toNat)
    case atStart => exact ⟨0, by omega, rfl, HO2.out, hgw2⟩
    case round =>
      obtain ⟨m, hm, rfl, hov, hg⟩ := hrel
      have d0 := hg.cell HC0.out (by simp)
      have hol := HL.out m
      obtain ⟨oa, oc, rfl⟩ := hov.shape
      have HOV : Hid (Own W0.heap.size wr (.slice oa (EC m).length oc) (EC m)) := hov
      have hsz := hg.size
      obtain ⟨ix0, ix1, ix2, ix3⟩ := index_texts n1 k1 l1 v1 bn.length n2 bk.length k2 bl.length l2 bv.length v2 wr
      clear hov
      have hm5 : m = 0 ∨ m = 1 ∨ m = 2 ∨ m = 3 ∨ m = 4 := by omega
      clear hm
      rcases hm5 with rfl | rfl | rfl | rfl | rfl
      · have HC : Hid (∀ n, Calls Tryd.prog 18 #[.int .i64 K, .int .u8 1] (wr.drewN n) fun e w'' => e = .returned (.bool (hasP K 0)) ∧ w'' = wr.drewN n) := fun n => H0.out _ (grown_drewN hg n)
        cases hB : hasP K 0 with
        | false =>
          rw [hB] at HC
          have HN : Hid (EC 1 = EC 0) := HF0.out hB
          clear hB
          generalize EC 0 = O at *
          go_upto_region 8 with fail
          go_quiet (first | (go_at_call 18; exact Calls.quiet_of_same (HC.out _)))
          go_wp2_with fail
          go_roundw
          case rel => exact ⟨1, by omega, rfl, by rw [HN.out]; exact own_drewN HOV.out _, grown_drewN hg _⟩
          case measure => simp [intOf]
        | true =>
          rw [hB] at HC
          have HN : Hid (EC 1 = EC 0 ++ [UInt8.ofNat bn.length] ++ bn) := HT0.out hB
          have hle := HLE.out.1
          have HSJ : Hid (∀ w', W0.grownBy w' none → SliceIs w' (.slice n1 bn.length n2) bn) := fun w' h => HS0.out.grown (grown_trans hg0 h)
          obtain ⟨y, hy⟩ : ∃ y : Int, y = ((UInt8.ofNat bn.length).toNat : Int) := ⟨_, rfl⟩
          have hcy : IntKind.u8.wrap (bn.length : Int) = y := by rw [hy]; simp [IntKind.wrap_u8]
          have HY : Hid (y = ((UInt8.ofNat bn.length).toNat : Int)) := hy
          clear hB hy
          generalize UInt8.ofNat bn.length = yb at *
          have HNL : Hid ((EC 1).length ≤ 200) := HL.out _
          generalize EC 0 = O at *
          have h3 : O.length + 1 + bn.length ≤ 200 := by have := HNL.out; rw [HN.out, List.length_append, List.length_append] at this; simpa using this
          go_upto_region 8 with fail
          go_quiet (first | (go_at_call 18; exact Calls.quiet_of_same (HC.out _)))
          obtain ⟨Wd, HWd⟩ : ∃ Wd, Hid (Wd = wr.drewN nq) := ⟨_, rfl⟩
          have HOd : Hid (Own W0.heap.size Wd (.slice oa O.length oc) O) := by rw [HWd.out]; exact own_drewN HOV.out _
          have hgd : W0.grownBy Wd none := by rw [HWd.out]; exact grown_drewN hg _
          rw [← HWd.out]
          have hszd := hgd.size
          have HYS : Hid (SliceIs (Wd.alloc (.cells #[.int .u8 y] 5)) (.slice (some ⟨Wd.heap.size, 0, none⟩) 1 1) [yb]) := by rw [HY.out]; exact one_slice Wd yb 5
          clear HOV d0 hsz hol ix0 ix1 ix2 ix3 HC
          go_wp2_with (at_builtin; first
            | (refine wpList_append_bytes rfl _ _ rfl W0.heap.size (.slice oa O.length oc) O rfl (HOd.out.alloc _) (some ⟨Wd.heap.size, 0, none⟩) 1 1 [yb] rfl HYS.out (by omega) (by simp; omega) ?_; intro v4 w4 ho4 hg4; have hg04 := grown_own (grown_alloc hgd _) (HOd.out.alloc _) hg4; obtain ⟨a4, c4, rfl⟩ := ho4.shape; have HO4 : Hid (Own W0.heap.size w4 (.slice a4 (O ++ [yb]).length c4) (O ++ [yb])) := ho4; have hl4 : (O ++ [yb]).length + bn.length ≤ 200 := (by rw [List.length_append, List.length_singleton]; exact h3); have hs4 := hg04.size; clear ho4 hg4; generalize hP4 : O ++ [yb] = P4 at *)
            | (refine wpList_append_bytes rfl _ _ rfl W0.heap.size (.slice a4 P4.length c4) P4 rfl HO4.out n1 bn.length n2 bn rfl (HSJ.out _ hg04) (by omega) hs4 ?_; intro v5 w5 ho5 hg5))
          have hg05 := grown_own hg04 HO4.out hg5
          rw [← HN.out] at ho5
          go_roundw
          case rel => exact ⟨1, by omega, rfl, ho5, hg05⟩
          case measure => simp [intOf]
      · have HC : Hid (∀ n, Calls Tryd.prog 18 #[.int .i64 K, .int .u8 2] (wr.drewN n) fun e w'' => e = .returned (.bool (hasP K 1)) ∧ w'' = wr.drewN n) := fun n => H1.out _ (grown_drewN hg n)
        cases hB : hasP K 1 with
        | false =>
          rw [hB] at HC
          have HN : Hid (EC 2 = EC 1) := HF1.out hB
          clear hB
          generalize EC 1 = O at *
          go_upto_region 8 with fail
          go_quiet (first | (go_at_call 18; exact Calls.quiet_of_same (HC.out _)))
          go_wp2_with fail
          go_roundw
          case rel => exact ⟨2, by omega, rfl, by rw [HN.out]; exact own_drewN HOV.out _, grown_drewN hg _⟩
          case measure => simp [intOf]
        | true =>
          rw [hB] at HC
          have HN : Hid (EC 2 = EC 1 ++ [UInt8.ofNat bk.length] ++ bk) := HT1.out hB
          have hle := HLE.out.2.1
          have HSJ : Hid (∀ w', W0.grownBy w' none → SliceIs w' (.slice k1 bk.length k2) bk) := fun w' h => HS1.out.grown (grown_trans hg0 h)
          obtain ⟨y, hy⟩ : ∃ y : Int, y = ((UInt8.ofNat bk.length).toNat : Int) := ⟨_, rfl⟩
          have hcy : IntKind.u8.wrap (bk.length : Int) = y := by rw [hy]; simp [IntKind.wrap_u8]
          have HY : Hid (y = ((UInt8.ofNat bk.length).toNat : Int)) := hy
          clear hB hy
          generalize UInt8.ofNat bk.length = yb at *
          have HNL : Hid ((EC 2).length ≤ 200) := HL.out _
          generalize EC 1 = O at *
          have h3 : O.length + 1 + bk.length ≤ 200 := by have := HNL.out; rw [HN.out, List.length_append, List.length_append] at this; simpa using this
          go_upto_region 8 with fail
          go_quiet (first | (go_at_call 18; exact Calls.quiet_of_same (HC.out _)))
          obtain ⟨Wd, HWd⟩ : ∃ Wd, Hid (Wd = wr.drewN nq) := ⟨_, rfl⟩
          have HOd : Hid (Own W0.heap.size Wd (.slice oa O.length oc) O) := by rw [HWd.out]; exact own_drewN HOV.out _
          have hgd : W0.grownBy Wd none := by rw [HWd.out]; exact grown_drewN hg _
          rw [← HWd.out]
          have hszd := hgd.size
          have HYS : Hid (SliceIs (Wd.alloc (.cells #[.int .u8 y] 5)) (.slice (some ⟨Wd.heap.size, 0, none⟩) 1 1) [yb]) := by rw [HY.out]; exact one_slice Wd yb 5
          clear HOV d0 hsz hol ix0 ix1 ix2 ix3 HC
          go_wp2_with (at_builtin; first
            | (refine wpList_append_bytes rfl _ _ rfl W0.heap.size (.slice oa O.length oc) O rfl (HOd.out.alloc _) (some ⟨Wd.heap.size, 0, none⟩) 1 1 [yb] rfl HYS.out (by omega) (by simp; omega) ?_; intro v4 w4 ho4 hg4; have hg04 := grown_own (grown_alloc hgd _) (HOd.out.alloc _) hg4; obtain ⟨a4, c4, rfl⟩ := ho4.shape; have HO4 : Hid (Own W0.heap.size w4 (.slice a4 (O ++ [yb]).length c4) (O ++ [yb])) := ho4; have hl4 : (O ++ [yb]).length + bk.length ≤ 200 := (by rw [List.length_append, List.length_singleton]; exact h3); have hs4 := hg04.size; clear ho4 hg4; generalize hP4 : O ++ [yb] = P4 at *)
            | (refine wpList_append_bytes rfl _ _ rfl W0.heap.size (.slice a4 P4.length c4) P4 rfl HO4.out k1 bk.length k2 bk rfl (HSJ.out _ hg04) (by omega) hs4 ?_; intro v5 w5 ho5 hg5))
          have hg05 := grown_own hg04 HO4.out hg5
          rw [← HN.out] at ho5
          go_roundw
          case rel => exact ⟨2, by omega, rfl, ho5, hg05⟩
          case measure => simp [intOf]
      · have HC : Hid (∀ n, Calls Tryd.prog 18 #[.int .i64 K, .int .u8 4] (wr.drewN n) fun e w'' => e = .returned (.bool (hasP K 2)) ∧ w'' = wr.drewN n) := fun n => H2.out _ (grown_drewN hg n)
        cases hB : hasP K 2 with
        | false =>
          rw [hB] at HC
          have HN : Hid (EC 3 = EC 2) := HF2.out hB
          clear hB
          generalize EC 2 = O at *
          go_upto_region 8 with fail
          go_quiet (first | (go_at_call 18; exact Calls.quiet_of_same (HC.out _)))
          go_wp2_with fail
          go_roundw
          case rel => exact ⟨3, by omega, rfl, by rw [HN.out]; exact own_drewN HOV.out _, grown_drewN hg _⟩
          case measure => simp [intOf]
        | true =>
          rw [hB] at HC
          have HN : Hid (EC 3 = EC 2 ++ [UInt8.ofNat bl.length] ++ bl) := HT2.out hB
          have hle := HLE.out.2.2.1
          have HSJ : Hid (∀ w', W0.grownBy w' none → SliceIs w' (.slice l1 bl.length l2) bl) := fun w' h => HS2.out.grown (grown_trans hg0 h)
          obtain ⟨y, hy⟩ : ∃ y : Int, y = ((UInt8.ofNat bl.length).toNat : Int) := ⟨_, rfl⟩
          have hcy : IntKind.u8.wrap (bl.length : Int) = y := by rw [hy]; simp [IntKind.wrap_u8]
          have HY : Hid (y = ((UInt8.ofNat bl.length).toNat : Int)) := hy
          clear hB hy
          generalize UInt8.ofNat bl.length = yb at *
          have HNL : Hid ((EC 3).length ≤ 200) := HL.out _
          generalize EC 2 = O at *
          have h3 : O.length + 1 + bl.length ≤ 200 := by have := HNL.out; rw [HN.out, List.length_append, List.length_append] at this; simpa using this
          go_upto_region 8 with fail
          go_quiet (first | (go_at_call 18; exact Calls.quiet_of_same (HC.out _)))
          obtain ⟨Wd, HWd⟩ : ∃ Wd, Hid (Wd = wr.drewN nq) := ⟨_, rfl⟩
          have HOd : Hid (Own W0.heap.size Wd (.slice oa O.length oc) O) := by rw [HWd.out]; exact own_drewN HOV.out _
          have hgd : W0.grownBy Wd none := by rw [HWd.out]; exact grown_drewN hg _
          rw [← HWd.out]
          have hszd := hgd.size
          have HYS : Hid (SliceIs (Wd.alloc (.cells #[.int .u8 y] 5)) (.slice (some ⟨Wd.heap.size, 0, none⟩) 1 1) [yb]) := by rw [HY.out]; exact one_slice Wd yb 5
          clear HOV d0 hsz hol ix0 ix1 ix2 ix3 HC
          go_wp2_with (at_builtin; first
            | (refine wpList_append_bytes rfl _ _ rfl W0.heap.size (.slice oa O.length oc) O rfl (HOd.out.alloc _) (some ⟨Wd.heap.size, 0, none⟩) 1 1 [yb] rfl HYS.out (by omega) (by simp; omega) ?_; intro v4 w4 ho4 hg4; have hg04 := grown_own (grown_alloc hgd _) (HOd.out.alloc _) hg4; obtain ⟨a4, c4, rfl⟩ := ho4.shape; have HO4 : Hid (Own W0.heap.size w4 (.slice a4 (O ++ [yb]).length c4) (O ++ [yb])) := ho4; have hl4 : (O ++ [yb]).length + bl.length ≤ 200 := (by rw [List.length_append, List.length_singleton]; exact h3); have hs4 := hg04.size; clear ho4 hg4; generalize hP4 : O ++ [yb] = P4 at *)
            | (refine wpList_append_bytes rfl _ _ rfl W0.heap.size (.slice a4 P4.length c4) P4 rfl HO4.out l1 bl.length l2 bl rfl (HSJ.out _ hg04) (by omega) hs4 ?_; intro v5 w5 ho5 hg5))
          have hg05 := grown_own hg04 HO4.out hg5
          rw [← HN.out] at ho5
          go_roundw
          case rel => exact ⟨3, by omega, rfl, ho5, hg05⟩
          case measure => simp [intOf]
      · have HC : Hid (∀ n, Calls Tryd.prog 18 #[.int .i64 K, .int .u8 8] (wr.drewN n) fun e w'' => e = .returned (.bool (hasP K 3)) ∧ w'' = wr.drewN n) := fun n => H3.out _ (grown_drewN hg n)
        cases hB : hasP K 3 with
        | false =>
          rw [hB] at HC
          have HN : Hid (EC 4 = EC 3) := HF3.out hB
          clear hB
          generalize EC 3 = O at *
          go_upto_region 8 with fail
          go_quiet (first | (go_at_call 18; exact Calls.quiet_of_same (HC.out _)))
          go_wp2_with fail
          go_roundw
          case rel => exact ⟨4, by omega, rfl, by rw [HN.out]; exact own_drewN HOV.out _, grown_drewN hg _⟩
          case measure => simp [intOf]
        | true =>
          rw [hB] at HC
          have HN : Hid (EC 4 = EC 3 ++ [UInt8.ofNat bv.length] ++ bv) := HT3.out hB
          have hle := HLE.out.2.2.2
          have HSJ : Hid (∀ w', W0.grownBy w' none → SliceIs w' (.slice v1 bv.length v2) bv) := fun w' h => HS3.out.grown (grown_trans hg0 h)
          obtain ⟨y, hy⟩ : ∃ y : Int, y = ((UInt8.ofNat bv.length).toNat : Int) := ⟨_, rfl⟩
          have hcy : IntKind.u8.wrap (bv.length : Int) = y := by rw [hy]; simp [IntKind.wrap_u8]
          have HY : Hid (y = ((UInt8.ofNat bv.length).toNat : Int)) := hy
          clear hB hy
          generalize UInt8.ofNat bv.length = yb at *
          have HNL : Hid ((EC 4).length ≤ 200) := HL.out _
          generalize EC 3 = O at *
          have h3 : O.length + 1 + bv.length ≤ 200 := by have := HNL.out; rw [HN.out, List.length_append, List.length_append] at this; simpa using this
          go_upto_region 8 with fail
          go_quiet (first | (go_at_call 18; exact Calls.quiet_of_same (HC.out _)))
          obtain ⟨Wd, HWd⟩ : ∃ Wd, Hid (Wd = wr.drewN nq) := ⟨_, rfl⟩
          have HOd : Hid (Own W0.heap.size Wd (.slice oa O.length oc) O) := by rw [HWd.out]; exact own_drewN HOV.out _
          have hgd : W0.grownBy Wd none := by rw [HWd.out]; exact grown_drewN hg _
          rw [← HWd.out]
          have hszd := hgd.size
          have HYS : Hid (SliceIs (Wd.alloc (.cells #[.int .u8 y] 5)) (.slice (some ⟨Wd.heap.size, 0, none⟩) 1 1) [yb]) := by rw [HY.out]; exact one_slice Wd yb 5
          clear HOV d0 hsz hol ix0 ix1 ix2 ix3 HC
          go_wp2_with (at_builtin; first
            | (refine wpList_append_bytes rfl _ _ rfl W0.heap.size (.slice oa O.length oc) O rfl (HOd.out.alloc _) (some ⟨Wd.heap.size, 0, none⟩) 1 1 [yb] rfl HYS.out (by omega) (by simp; omega) ?_; intro v4 w4 ho4 hg4; have hg04 := grown_own (grown_alloc hgd _) (HOd.out.alloc _) hg4; obtain ⟨a4, c4, rfl⟩ := ho4.shape; have HO4 : Hid (Own W0.heap.size w4 (.slice a4 (O ++ [yb]).length c4) (O ++ [yb])) := ho4; have hl4 : (O ++ [yb]).length + bv.length ≤ 200 := (by rw [List.length_append, List.length_singleton]; exact h3); have hs4 := hg04.size; clear ho4 hg4; generalize hP4 : O ++ [yb] = P4 at *)
            | (refine wpList_append_bytes rfl _ _ rfl W0.heap.size (.slice a4 P4.length c4) P4 rfl HO4.out v1 bv.length v2 bv rfl (HSJ.out _ hg04) (by omega) hs4 ?_; intro v5 w5 ho5 hg5))
          have hg05 := grown_own hg04 HO4.out hg5
          rw [← HN.out] at ho5
          go_roundw
          case rel => exact ⟨4, by omega, rfl, ho5, hg05⟩
          case measure => simp [intOf]
      · go_wp2
        go_ret2
        exact ⟨_, rfl, by rw [HE.out]; exact HOV.out.slice, grown_trans hg0 hg⟩
  · have hE : rencB r = [] := by rw [rencB, if_neg hz]
    rw [hE]
    have hz' : (reqE r != 0) = true := by simpa using hz
    generalize reqE r = z at *
    clear hz hv hf
    go_enter Tryd.func8, Tryd.ntmps8
    go_upto_region 1 with fail
    rw [← HW0.out]
    go_wp2_with fail
    refine CK.out.mono ?_
    rintro e w1 ⟨rfl, hg1⟩
    go_wp2
    go_ret2
    exact ⟨_, rfl, sliceIs_nil _, grown_trans hg0 hg1⟩
end Go.Proofs.YtghjikifflpeiabDoor
