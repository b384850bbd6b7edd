/-
  wire.Read, as it landed, keeps P9.5.
-/
import Derived.Test.YtghjikifflpeiabDoorRqRd
import Derived.Test.YtghjikifflpeiabDoorWrCkP
import Derived.Test.YtghjikifflpeiabDoorCloneP
import Derived.Deep.RegionHeld3
import Derived.Deep.RegionWith
import Derived.Handy
namespace Go.Proofs.YtghjikifflpeiabDoor
open Go.RowKit
set_option maxRecDepth 100000 in
set_option maxHeartbeats 4000000 in
theorem rqread_ok : RqReadOK := by
  intro w v r hT hv hf
  obtain ⟨n1, n2, k1, k2, l1, l2, v1, v2, rfl⟩ := hv.agg
  obtain ⟨_, S0, S1, S2, S3⟩ := hv.parts
  obtain ⟨W0, HW0, hg0, B0⟩ := alloc_namedR w (.cells #[.int .i64 r.kind, .slice n1 r.name.length n2, .slice k1 r.key.length k2, .slice l1 r.last.length l2, .slice v1 r.value.length v2] 24)
  obtain ⟨W1, HW1, hg1, BR0⟩ := alloc_namedR W0 (.cells #[.slice none 0 0, .slice none 0 0, .bool false, .slice none 0 0] 37)
  have hgW := grown_trans hg0 hg1
  have hs0 : W0.heap.size = w.heap.size + 1 := by rw [HW0.out]; simp
  have hs1 : W1.heap.size = w.heap.size + 2 := by rw [HW1.out]; simp [hs0]
  rw [hs0] at BR0
  have B1 : Hid (W1.heap[w.heap.size]? = some (.cells #[.int .i64 r.kind, .slice n1 r.name.length n2, .slice k1 r.key.length k2, .slice l1 r.last.length l2, .slice v1 r.value.length v2] 24)) := pair_old hg1 B0.out
  have HX : Hid (W1 = (w.alloc (.cells #[.int .i64 r.kind, .slice n1 r.name.length n2, .slice k1 r.key.length k2, .slice l1 r.last.length l2, .slice v1 r.value.length v2] 24)).alloc (.cells #[.slice none 0 0, .slice none 0 0, .bool false, .slice none 0 0] 37)) := by show _ = _; rw [HW1.out, HW0.out]
  have CK : Hid (Calls Tryd.prog 14 #[.agg #[.int .i64 r.kind, .slice n1 r.name.length n2, .slice k1 r.key.length k2, .slice l1 r.last.length l2, .slice v1 r.value.length v2]] W1 fun e w' => e = .returned (.int .i64 (reqE r)) ∧ W1.grownBy w' none) := rqcheck_ok W1 _ r (hT.grown hgW) (hv.grown hgW) hf
  obtain ⟨p0, p1, p2, p3, p4⟩ := hf
  have J1 : Hid (∀ w', W1.grownBy w' none → Calls Tryd.prog 22 #[.slice n1 r.name.length n2] w' fun e w'' => ∃ v', e = .returned v' ∧ Own w'.heap.size w'' v' r.name ∧ w'.grownBy w'' none) := fun w' hg' => clone_any w' _ r.name (S0.grown (grown_trans hgW hg')) (by omega)
  have J2 : Hid (∀ w', W1.grownBy w' none → Calls Tryd.prog 22 #[.slice k1 r.key.length k2] w' fun e w'' => ∃ v', e = .returned v' ∧ Own w'.heap.size w'' v' r.key ∧ w'.grownBy w'' none) := fun w' hg' => clone_any w' _ r.key (S1.grown (grown_trans hgW hg')) (by omega)
  have J3 : Hid (∀ w', W1.grownBy w' none → Calls Tryd.prog 22 #[.slice l1 r.last.length l2] w' fun e w'' => ∃ v', e = .returned v' ∧ Own w'.heap.size w'' v' r.last ∧ w'.grownBy w'' none) := fun w' hg' => clone_any w' _ r.last (S2.grown (grown_trans hgW hg')) (by omega)
  have HGR : Hid (∀ w', W1.grownBy w' none → w.grownBy w' none) := fun w' h => grown_trans hgW h
  obtain ⟨RB, hRB⟩ : ∃ RB, RB = w.heap.size + 1 := ⟨_, rfl⟩
  obtain ⟨IB, hIB⟩ : ∃ IB, IB = w.heap.size := ⟨_, rfl⟩
  have hIR : IB ≠ RB := by omega
  have HLT : Hid (RB < W1.heap.size) := by show _ < _; omega
  have HLE : Hid (w.heap.size ≤ RB) := by show _ ≤ _; omega
  rw [← hRB] at BR0
  rw [← hIB] at B1
  obtain ⟨ZE, hZE⟩ : ∃ ZE, ZE = rreadE r := ⟨_, rfl⟩
  obtain ⟨ZR, hZR⟩ : ∃ ZR, ZR = rreadR r := ⟨_, rfl⟩
  rw [← hZE, ← hZR]
  have HE0 : Hid (reqE r ≠ 0 → ZE = reqE r ∧ ZR = noRd) := fun hz => by
    have : rreadE r = reqE r := by rw [rreadE, if_neg hz]
    rw [hZE, hZR]
    exact ⟨this, by rw [rreadR, if_neg (by rw [this]; exact hz)]⟩
  have HE1 : Hid (reqE r = 0 → ¬ (r.kind = 2 ∨ r.kind = 3) → ZE = 7 ∧ ZR = noRd) := fun hz hk => by
    have : rreadE r = 7 := by rw [rreadE, if_pos hz, if_neg hk]
    rw [hZE, hZR]
    exact ⟨this, by rw [rreadR, if_neg (by rw [this]; decide)]⟩
  have HE2 : Hid (reqE r = 0 → (r.kind = 2 ∨ r.kind = 3) → ZE = 0 ∧ ZR = ⟨r.name, r.key, decide (r.kind = 3), r.last⟩) := fun hz hk => by
    have : rreadE r = 0 := by rw [rreadE, if_pos hz, if_pos hk]
    rw [hZE, hZR]
    exact ⟨this, by rw [rreadR, if_pos this]⟩
  clear hZE hZR hv S0 S1 S2 S3 p0 p1 p2 p3 p4 hs0 hs1 HW0 HW1 hg0 hg1 B0 hgW hT
  generalize reqE r = E at *
  generalize r.kind = K at *
  generalize r.name = bn at *
  generalize r.key = bk at *
  generalize r.last = bl at *
  generalize r.value = bv at *
  go_enter Tryd.func12, Tryd.ntmps12
  go_upto_region 1 with fail
  rw [← HX.out, ← hRB, ← hIB]
  clear hRB hIB HX
  obtain ⟨⟨c0, c1, c2, c3, c4⟩, hfz, _⟩ := five_room (grown_refl W1 none) B1.out
  clear hfz
  go_wp2_with fail
  refine CK.out.mono ?_
  rintro e w2 ⟨rfl, hg2⟩
  clear c0 c1 c2 c3 c4
  obtain ⟨⟨c0, c1, c2, c3, c4⟩, hfz, hB2⟩ := five_room hg2 B1.out
  obtain ⟨⟨y0, y1, y2, y3⟩, u0, u1, u2, u3, hR2⟩ := quad_room hg2 BR0.out
  have HB2 : Hid (w2.heap[IB]? = some (.cells #[.int .i64 K, .slice n1 bn.length n2, .slice k1 bk.length k2, .slice l1 bl.length l2, .slice v1 bv.length v2] 24)) := hB2
  have HR2 : Hid (w2.heap[RB]? = some (.cells #[.slice none 0 0, .slice none 0 0, .bool false, .slice none 0 0] 37)) := hR2
  clear hfz hB2 hR2
  have hgw2 := HGR.out _ hg2
  have hQ := four_set HR2.out (.slice none 0 0) (.slice none 0 0) (.bool false) (.slice none 0 0)
  obtain ⟨⟨r0, r1, r2, r3⟩, _⟩ := quad_room (grown_refl _ none) hQ
  have hgQ := four_grown hgw2 HLE.out (.slice none 0 0) (.slice none 0 0) (.bool false) (.slice none 0 0)
  have HNO : Hid (ReadIs (set4 w2 RB (.slice none 0 0) (.slice none 0 0) (.bool false) (.slice none 0 0)) (.agg #[.slice none 0 0, .slice none 0 0, .bool false, .slice none 0 0]) noRd) := ⟨_, _, _, rfl, sliceIs_nil _, sliceIs_nil _, sliceIs_nil _⟩
  clear hQ
  by_cases hz : E = 0
  · have hzb : (E != 0) = false := by simp [hz]
    have hzc : (E == 0) = true := by simp [hz]
    by_cases hk : K = 2 ∨ K = 3
    · obtain ⟨rE, rR⟩ := HE2.out hz hk
      have HZE : Hid (ZE = 0) := rE
      have HZR : Hid (ZR = ⟨bn, bk, decide (K = 3), bl⟩) := rR
      clear rE rR HE0 HE1 HE2 hz r0 r1 r2 r3 hgQ HNO CK
      rcases hk with rfl | rfl
      · have hgd := grown_drew (grown_refl w2 none)
        have HZ2 : Hid (ZR = ⟨bn, bk, false, bl⟩) := by show _ = _; rw [HZR.out]; rfl
        skip
        skip
        go_upto_region 6 with fail
        obtain ⟨⟨e0, e1, e2, e3, e4⟩, hfz, _⟩ := five_room hgd HB2.out
        clear hfz HZR
        go_region_held3 (fun w' => w'.cell? ⟨IB, 0, none⟩ = some (.int .i64 2) ∧ w'.cell? ⟨IB, 1, none⟩ = some (.slice n1 bn.length n2) ∧ w'.cell? ⟨IB, 2, none⟩ = some (.slice k1 bk.length k2) ∧ w'.cell? ⟨IB, 3, none⟩ = some (.slice l1 bl.length l2))
          (first | with_reducible exact ⟨e0, e1, e2, e3⟩ | with_reducible exact ⟨f0, f1, f2, f3⟩ | with_reducible exact ⟨g0, g1, g2, g3⟩ | with_reducible exact ⟨h0, h1, h2, h3⟩ | (refine ⟨?_, ?_, ?_, ?_⟩ <;> (rw [World.cell?_setCell_other _ _ _ _ (by intro e; injection e with e1 e2; omega), World.cell?_setCell_other _ _ _ _ (by intro e; injection e with e1 e2; omega), World.cell?_setCell_other _ _ _ _ (by intro e; injection e with e1 e2; omega), World.cell?_setCell_other _ _ _ _ (by intro e; injection e with e1 e2; omega)]; assumption)))
          (first
            | (go_at_call_of 22 (Value.slice n1 bn.length n2); with_reducible refine (J1.out _ (grown_trans hg2 hgd)).mono ?_; rintro e w3 ⟨v3, rfl, ho3, hg3⟩; obtain ⟨xa, xc, rfl⟩ := ho3.shape; have hgd3 := grown_trans hgd hg3; obtain ⟨⟨f0, f1, f2, f3, f4⟩, _⟩ := five_room hgd3 HB2.out)
            | (go_at_call_of 22 (Value.slice k1 bk.length k2); with_reducible refine (J2.out _ (grown_trans hg2 hgd3)).mono ?_; rintro e w4 ⟨v4, rfl, ho4, hg4⟩; obtain ⟨ya, yc, rfl⟩ := ho4.shape; have hgd4 := grown_trans hgd3 hg4; obtain ⟨⟨g0, g1, g2, g3, g4⟩, _⟩ := five_room hgd4 HB2.out)
            | (go_at_call_of 22 (Value.slice l1 bl.length l2); with_reducible refine (J3.out _ (grown_trans hg2 hgd4)).mono ?_; rintro e w5 ⟨v5, rfl, ho5, hg5⟩; obtain ⟨za, zc, rfl⟩ := ho5.shape; have hgd5 := grown_trans hgd4 hg5; obtain ⟨⟨h0, h1, h2, h3, h4⟩, _⟩ := five_room hgd5 HB2.out
               have hR := pair_old hgd5 HR2.out
               obtain ⟨⟨y0, y1, y2, y3⟩, u0, u1, u2, u3, _⟩ := quad_room (grown_refl w5 none) hR
               have HR : Hid (w5.heap[RB]? = some (.cells #[.slice none 0 0, .slice none 0 0, .bool false, .slice none 0 0] 37)) := hR
               clear hR))
        all_goals (
          have hq := four_set HR.out (.slice xa bn.length xc) (.slice ya bk.length yc) (.bool false) (.slice za bl.length zc)
          obtain ⟨⟨r0, r1, r2, r3⟩, _⟩ := quad_room (grown_refl _ none) hq
          have hlt3 : RB < w2.drew.heap.size := Nat.lt_of_lt_of_le HLT.out hg2.size
          have hlt4 : RB < w3.heap.size := Nat.lt_of_lt_of_le hlt3 hg3.size
          have hlt5 : RB < w4.heap.size := Nat.lt_of_lt_of_le hlt4 hg4.size
          have P1 : Hid (SliceIs (set4 w5 RB (.slice xa bn.length xc) (.slice ya bk.length yc) (.bool false) (.slice za bl.length zc)) (.slice xa bn.length xc) bn) := ((ho3.grownNone (grown_trans hg4 hg5)).later (four_turn w5 RB _ _ _ _) hlt3).slice
          have P2 : Hid (SliceIs (set4 w5 RB (.slice xa bn.length xc) (.slice ya bk.length yc) (.bool false) (.slice za bl.length zc)) (.slice ya bk.length yc) bk) := ((ho4.grownNone hg5).later (four_turn w5 RB _ _ _ _) hlt4).slice
          have P3 : Hid (SliceIs (set4 w5 RB (.slice xa bn.length xc) (.slice ya bk.length yc) (.bool false) (.slice za bl.length zc)) (.slice za bl.length zc) bl) := (ho5.later (four_turn w5 RB _ _ _ _) hlt5).slice
          have hgq := four_grown (grown_trans hgw2 hgd5) HLE.out (.slice xa bn.length xc) (.slice ya bk.length yc) (.bool false) (.slice za bl.length zc)
          clear ho3 ho4 ho5 hq
          go_wp2
          refine bodyPost_ret (v := .tuple #[.agg #[.slice xa bn.length xc, .slice ya bk.length yc, .bool false, .slice za bl.length zc], .int .i64 0]) (by simp [results, Tryd.results12, go_sem, r0, r1, r2, r3]) rfl ?_
          exact ⟨_, by rw [HZE.out], by rw [HZ2.out]; exact ⟨_, _, _, rfl, P1.out, P2.out, P3.out⟩, hgq⟩)
      · have hgd := grown_drew (grown_refl w2 none)
        have HZ2 : Hid (ZR = ⟨bn, bk, true, bl⟩) := by show _ = _; rw [HZR.out]; rfl
        skip
        skip
        go_upto_region 6 with fail
        obtain ⟨⟨e0, e1, e2, e3, e4⟩, hfz, _⟩ := five_room hgd HB2.out
        clear hfz HZR
        go_region_held3 (fun w' => w'.cell? ⟨IB, 0, none⟩ = some (.int .i64 3) ∧ w'.cell? ⟨IB, 1, none⟩ = some (.slice n1 bn.length n2) ∧ w'.cell? ⟨IB, 2, none⟩ = some (.slice k1 bk.length k2) ∧ w'.cell? ⟨IB, 3, none⟩ = some (.slice l1 bl.length l2))
          (first | with_reducible exact ⟨e0, e1, e2, e3⟩ | with_reducible exact ⟨f0, f1, f2, f3⟩ | with_reducible exact ⟨g0, g1, g2, g3⟩ | with_reducible exact ⟨h0, h1, h2, h3⟩ | (refine ⟨?_, ?_, ?_, ?_⟩ <;> (rw [World.cell?_setCell_other _ _ _ _ (by intro e; injection e with e1 e2; omega), World.cell?_setCell_other _ _ _ _ (by intro e; injection e with e1 e2; omega), World.cell?_setCell_other _ _ _ _ (by intro e; injection e with e1 e2; omega), World.cell?_setCell_other _ _ _ _ (by intro e; injection e with e1 e2; omega)]; assumption)))
          (first
            | (go_at_call_of 22 (Value.slice n1 bn.length n2); with_reducible refine (J1.out _ (grown_trans hg2 hgd)).mono ?_; rintro e w3 ⟨v3, rfl, ho3, hg3⟩; obtain ⟨xa, xc, rfl⟩ := ho3.shape; have hgd3 := grown_trans hgd hg3; obtain ⟨⟨f0, f1, f2, f3, f4⟩, _⟩ := five_room hgd3 HB2.out)
            | (go_at_call_of 22 (Value.slice k1 bk.length k2); with_reducible refine (J2.out _ (grown_trans hg2 hgd3)).mono ?_; rintro e w4 ⟨v4, rfl, ho4, hg4⟩; obtain ⟨ya, yc, rfl⟩ := ho4.shape; have hgd4 := grown_trans hgd3 hg4; obtain ⟨⟨g0, g1, g2, g3, g4⟩, _⟩ := five_room hgd4 HB2.out)
            | (go_at_call_of 22 (Value.slice l1 bl.length l2); with_reducible refine (J3.out _ (grown_trans hg2 hgd4)).mono ?_; rintro e w5 ⟨v5, rfl, ho5, hg5⟩; obtain ⟨za, zc, rfl⟩ := ho5.shape; have hgd5 := grown_trans hgd4 hg5; obtain ⟨⟨h0, h1, h2, h3, h4⟩, _⟩ := five_room hgd5 HB2.out
               have hR := pair_old hgd5 HR2.out
               obtain ⟨⟨y0, y1, y2, y3⟩, u0, u1, u2, u3, _⟩ := quad_room (grown_refl w5 none) hR
               have HR : Hid (w5.heap[RB]? = some (.cells #[.slice none 0 0, .slice none 0 0, .bool false, .slice none 0 0] 37)) := hR
               clear hR))
        all_goals (
          have hq := four_set HR.out (.slice xa bn.length xc) (.slice ya bk.length yc) (.bool true) (.slice za bl.length zc)
          obtain ⟨⟨r0, r1, r2, r3⟩, _⟩ := quad_room (grown_refl _ none) hq
          have hlt3 : RB < w2.drew.heap.size := Nat.lt_of_lt_of_le HLT.out hg2.size
          have hlt4 : RB < w3.heap.size := Nat.lt_of_lt_of_le hlt3 hg3.size
          have hlt5 : RB < w4.heap.size := Nat.lt_of_lt_of_le hlt4 hg4.size
          have P1 : Hid (SliceIs (set4 w5 RB (.slice xa bn.length xc) (.slice ya bk.length yc) (.bool true) (.slice za bl.length zc)) (.slice xa bn.length xc) bn) := ((ho3.grownNone (grown_trans hg4 hg5)).later (four_turn w5 RB _ _ _ _) hlt3).slice
          have P2 : Hid (SliceIs (set4 w5 RB (.slice xa bn.length xc) (.slice ya bk.length yc) (.bool true) (.slice za bl.length zc)) (.slice ya bk.length yc) bk) := ((ho4.grownNone hg5).later (four_turn w5 RB _ _ _ _) hlt4).slice
          have P3 : Hid (SliceIs (set4 w5 RB (.slice xa bn.length xc) (.slice ya bk.length yc) (.bool true) (.slice za bl.length zc)) (.slice za bl.length zc) bl) := (ho5.later (four_turn w5 RB _ _ _ _) hlt5).slice
          have hgq := four_grown (grown_trans hgw2 hgd5) HLE.out (.slice xa bn.length xc) (.slice ya bk.length yc) (.bool true) (.slice za bl.length zc)
          clear ho3 ho4 ho5 hq
          go_wp2
          refine bodyPost_ret (v := .tuple #[.agg #[.slice xa bn.length xc, .slice ya bk.length yc, .bool true, .slice za bl.length zc], .int .i64 0]) (by simp [results, Tryd.results12, go_sem, r0, r1, r2, r3]) rfl ?_
          exact ⟨_, by rw [HZE.out], by rw [HZ2.out]; exact ⟨_, _, _, rfl, P1.out, P2.out, P3.out⟩, hgq⟩)
    · obtain ⟨rE, rR⟩ := HE1.out hz hk
      have hka : (K != 2) = true := bne_iff_ne.2 (fun h => hk (.inl h))
      have hkb : (K != 3) = true := bne_iff_ne.2 (fun h => hk (.inr h))
      have HZE : Hid (ZE = 7) := rE
      have HZR : Hid (ZR = noRd) := rR
      clear rE rR HE0 HE1 HE2 hz hk
      go_wp2
      refine bodyPost_ret (v := .tuple #[.agg #[.slice none 0 0, .slice none 0 0, .bool false, .slice none 0 0], .int .i64 7]) (by simp [results, Tryd.results12, go_sem, r0, r1, r2, r3]) rfl ?_
      exact ⟨_, by rw [HZE.out], by rw [HZR.out]; exact HNO.out, hgQ⟩
  · have hzb : (E != 0) = true := by simp [hz]
    have hzc : (E == 0) = false := by simp [hz]
    obtain ⟨rE, rR⟩ := HE0.out hz
    have HZE : Hid (ZE = E) := rE
    have HZR : Hid (ZR = noRd) := rR
    clear rE rR HE0 HE1 HE2 hz
    go_wp2
    refine bodyPost_ret (v := .tuple #[.agg #[.slice none 0 0, .slice none 0 0, .bool false, .slice none 0 0], .int .i64 E]) (by simp [results, Tryd.results12, go_sem, r0, r1, r2, r3]) rfl ?_
    exact ⟨_, by rw [HZE.out], by rw [HZR.out]; exact HNO.out, hgQ⟩
end Go.Proofs.YtghjikifflpeiabDoor
