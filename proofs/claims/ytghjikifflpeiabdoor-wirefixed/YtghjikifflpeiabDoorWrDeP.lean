/-
  wire.Decode, as it landed, keeps P9.4.
-/
import Derived.Test.YtghjikifflpeiabDoorRqDe
import Derived.Test.YtghjikifflpeiabDoorWrDtP
import Derived.Test.YtghjikifflpeiabDoorWrCkP
namespace Go.Proofs.YtghjikifflpeiabDoor
open Go.RowKit
theorem Own.later5 {base : Nat} {w : World} {v : Value} {bs : List UInt8} (h : Own base w v bs) {b : Nat} (hb : b < base) (x y z u s : Value) : Own base (set5 w b x y z u s) v bs := h.later (five_turn w b x y z u s) hb
theorem wdec_long {b : List UInt8} (h : 4000 < b.length) : wdecE b = 1 ∧ wdecR b = noRq := by
  have : wdecE b = 1 := by rw [wdecE, if_pos h]
  exact ⟨this, wdecR_bad (by rw [this]; decide)⟩
theorem wdec_short {b : List UInt8} (h : b.length = 0) : wdecE b = 14 ∧ wdecR b = noRq := by
  have : wdecE b = 14 := by rw [wdecE, if_neg (by omega), if_pos h]
  exact ⟨this, wdecR_bad (by rw [this]; decide)⟩
theorem wdec_kind {b : List UInt8} (h1 : ¬ 4000 < b.length) (h2 : ¬ b.length = 0) (hk : ¬ (1 ≤ kindD b ∧ kindD b ≤ 8)) : wdecE b = 5 ∧ wdecR b = noRq := by
  have : wdecE b = 5 := by rw [wdecE, if_neg h1, if_neg h2, if_neg hk]
  exact ⟨this, wdecR_bad (by rw [this]; decide)⟩
set_option maxRecDepth 100000 in
set_option maxHeartbeats 4000000 in
theorem rqdec_ok : RqDecOK := by
  intro w v b hT hv hl
  obtain ⟨a, cap, rfl⟩ := hv.shape
  obtain ⟨W0, HW0, hg0, B0⟩ := alloc_namedR w (.cells #[.int .i64 0, nilS, nilS, nilS, nilS] 24)
  have hZ := five_set B0.out (.int .i64 0) nilS nilS nilS nilS
  obtain ⟨⟨z0, z1, z2, z3, z4⟩, hfz, _⟩ := five_room (grown_refl _ none) hZ
  obtain ⟨⟨c0, c1, c2, c3, c4⟩, ⟨f0, f1, f2, f3, f4⟩, _⟩ := five_room (grown_refl W0 none) B0.out
  have hgZ := five_grown hg0 (Nat.le_refl _) (.int .i64 0) nilS nilS nilS nilS
  clear hfz hZ
  by_cases h4 : 4000 < b.length
  · obtain ⟨e1, e2⟩ := wdec_long h4
    rw [e1, e2]
    have i1 : (b.length : Int) > 4000 := by omega
    clear hv e1 e2 h4
    go_enter Tryd.func7, Tryd.ntmps7
    go_upto_region 1 with fail
    rw [← HW0.out]
    go_wp2
    refine bodyPost_ret (v := .tuple #[.agg #[.int .i64 0, nilS, nilS, nilS, nilS], .int .i64 1]) (by simp [results, Tryd.results7, go_sem, z0, z1, z2, z3, z4]) rfl ?_
    exact ⟨_, rfl, rqIs_no _, hgZ⟩
  · have i1 : ¬ (b.length : Int) > 4000 := by omega
    by_cases h0 : b.length = 0
    · obtain ⟨e1, e2⟩ := wdec_short h0
      rw [e1, e2]
      have i2 : ((b.length : Int) == 0) = true := beq_iff_eq.2 (by omega)
      clear hv e1 e2 h4 h0
      go_enter Tryd.func7, Tryd.ntmps7
      go_upto_region 1 with fail
      rw [← HW0.out]
      go_wp2
      refine bodyPost_ret (v := .tuple #[.agg #[.int .i64 0, nilS, nilS, nilS, nilS], .int .i64 14]) (by simp [results, Tryd.results7, go_sem, z0, z1, z2, z3, z4]) rfl ?_
      exact ⟨_, rfl, rqIs_no _, hgZ⟩
    · have i2 : ((b.length : Int) == 0) = false := beq_eq_false_iff_ne.2 (by omega)
      have hpos : 0 < b.length := by omega
      obtain ⟨pb, po, rfl, hb⟩ := hv.byte 0 hpos
      have d0 := hb.grown hg0 (by simp) 0 hpos
      rw [Nat.add_zero] at d0
      have hn256 := (b.getD 0 0).toNat_lt
      have hKD : kindD b = ((b.getD 0 0).toNat : Int) := rfl
      generalize hnn : (b.getD 0 0).toNat = n at *
      have IK : Hid (Calls Tryd.prog 15 #[.int .i64 (n : Int)] W0 fun e w' => e = .returned (.bool (decide (1 ≤ (n : Int) ∧ (n : Int) ≤ 8))) ∧ w' = W0) := isKind_any _ _
      by_cases hk : 1 ≤ (n : Int) ∧ (n : Int) ≤ 8
      · rw [decide_eq_true hk] at IK
        obtain ⟨w1E, w1R⟩ := wdec_dt h4 h0 (by rw [hKD]; exact hk)
        rw [hKD] at w1E w1R
        obtain ⟨a2, s2, r3, r4⟩ := bslice_l (some ⟨pb, po, none⟩) cap b 1 (by omega)
        have q2 : ∀ W, (Instr.slice 22 (.slice (some ⟨pb, po, none⟩) b.length cap) (some (.int .i64 1)) none none).run Tryd.prog W = .ok (.slice a2 (b.length - 1) s2) W := r3
        have DT : Hid (Calls Tryd.prog 16 #[.int .i64 (n : Int), .slice a2 (b.length - 1) s2] W0 fun e w' => ∃ t0 t1 t2 t3, e = .returned (.tuple #[.agg #[t0, t1, t2, t3], .int .i64 (dtE (n : Int) (b.drop 1))]) ∧ Own W0.heap.size w' t0 (dtR (n : Int) (b.drop 1)).name ∧ Own W0.heap.size w' t1 (dtR (n : Int) (b.drop 1)).key ∧ Own W0.heap.size w' t2 (dtR (n : Int) (b.drop 1)).last ∧ Own W0.heap.size w' t3 (dtR (n : Int) (b.drop 1)).value ∧ W0.grownBy w' none) :=
          decodeTexts_any W0 (hT.grown hg0) n (by omega) _ _ (r4 W0 (hv.grown hg0)) (by rw [List.length_drop]; omega)
        have hsz := dt_size (k := (n : Int)) (b := b.drop 1) (by rw [List.length_drop]; omega)
        have hkd := dt_kind (k := (n : Int)) (b := b.drop 1)
        obtain ⟨R, hR⟩ : ∃ R, R = dtR (n : Int) (b.drop 1) := ⟨_, rfl⟩
        obtain ⟨E, hE⟩ : ∃ E, E = dtE (n : Int) (b.drop 1) := ⟨_, rfl⟩
        rw [← hR, ← hE] at DT
        rw [← hR, ← hE] at w1E
        rw [← hR] at w1R hsz hkd
        rw [← hE] at hkd
        obtain ⟨Z, hZ⟩ : ∃ Z, Z = wdecE b := ⟨_, rfl⟩
        obtain ⟨Q, hQ⟩ : ∃ Q, Q = wdecR b := ⟨_, rfl⟩
        have HQB : Hid (Z ≠ 0 → Q = noRq) := fun h => by rw [hQ]; exact wdecR_bad (by rw [← hZ]; exact h)
        have HQO : Hid (Z = 0 → Q = R) := fun h => by rw [hQ]; exact w1R (by rw [← hZ]; exact h)
        rw [← hZ] at w1E
        rw [← hZ, ← hQ]
        have HZE : Hid (Z = if E = 0 then reqE R else E) := w1E
        have CK : Hid (∀ w' u, W0.grownBy w' none → R.kind = (n : Int) → RqIs w' u R → Calls Tryd.prog 14 #[u] w' fun e w'' => e = .returned (.int .i64 (reqE R)) ∧ w'.grownBy w'' none) := fun w' u h1 h2 h3 => rqcheck_ok w' u R (hT.grown (grown_trans hg0 h1)) h3 ⟨by omega, by omega, by omega, by omega, by omega⟩
        have HKD : Hid (E = 0 → R.kind = (n : Int)) := hkd
        have HRBS : Hid (w.heap.size < W0.heap.size) := by show _ < _; rw [HW0.out]; simp
        have hRB2 : w.heap.size ≤ w.heap.size := Nat.le_refl _
        obtain ⟨RB, hRB⟩ : ∃ RB, RB = w.heap.size := ⟨_, rfl⟩
        clear hv hb r3 r4 hT hR hE hZ hQ w1E w1R hsz hkd hKD hnn h4 h0 hk hgZ z0 z1 z2 z3 z4 hRB2
        go_enter Tryd.func7, Tryd.ntmps7
        go_upto_region 1 with fail
        rw [← HW0.out]
        have HLE : Hid (w.heap.size ≤ RB) := by show _ ≤ _; rw [hRB]; exact Nat.le_refl _
        have HLT : Hid (RB < W0.heap.size) := by show _ < _; rw [hRB]; exact HRBS.out
        rw [← hRB] at B0 c0 c1 c2 c3 c4 f0 f1 f2 f3 f4 ⊢
        clear hRB HRBS
        go_wp2_with fail
        refine IK.out.mono ?_
        rintro e w1 ⟨rfl, hw⟩
        rw [hw]
        clear hw
        go_wp2_with fail
        refine DT.out.mono ?_
        rintro e w2 ⟨t0, t1, t2, t3, rfl, o0, o1, o2, o3, hg2⟩
        obtain ⟨x0, y0, rfl⟩ := o0.shape
        obtain ⟨x1, y1, rfl⟩ := o1.shape
        obtain ⟨x2, y2, rfl⟩ := o2.shape
        obtain ⟨x3, y3, rfl⟩ := o3.shape
        obtain ⟨W2, HW2, hgA2, BT⟩ := alloc_namedR w2 (.cells #[.slice x0 R.name.length y0, .slice x1 R.key.length y1, .slice x2 R.last.length y2, .slice x3 R.value.length y3] 48)
        have hg02 := grown_trans hg2 hgA2
        have HO0 : Hid (Own W0.heap.size W2 (.slice x0 R.name.length y0) R.name) := o0.grownNone hgA2
        have HO1 : Hid (Own W0.heap.size W2 (.slice x1 R.key.length y1) R.key) := o1.grownNone hgA2
        have HO2 : Hid (Own W0.heap.size W2 (.slice x2 R.last.length y2) R.last) := o2.grownNone hgA2
        have HO3 : Hid (Own W0.heap.size W2 (.slice x3 R.value.length y3) R.value) := o3.grownNone hgA2
        clear o0 o1 o2 o3 c0 c1 c2 c3 c4 f0 f1 f2 f3 f4 d0
        go_upto_region 9 with fail
        rw [← HW2.out]
        obtain ⟨TB, hTB⟩ : ∃ TB, TB = w2.heap.size := ⟨_, rfl⟩
        rw [← hTB] at BT ⊢
        clear hTB
        by_cases hz : E = 0
        · have HZ2 : Hid (Z = reqE R) := by show _ = _; rw [HZE.out, if_pos hz]
          have HK : Hid (R.kind = (n : Int)) := HKD.out hz
          have hzb : (E != 0) = false := by simp [hz]
          obtain ⟨⟨j0, j1, j2, j3⟩, _⟩ := quad_room (grown_refl W2 none) BT.out
          obtain ⟨W3, HW3, hgA3, BQ⟩ := alloc_namedR W2 (.cells #[.int .i64 (n : Int), .slice x0 R.name.length y0, .slice x1 R.key.length y1, .slice x2 R.last.length y2, .slice x3 R.value.length y3] 24)
          have hg03 := grown_trans hg02 hgA3
          have HRQ : Hid (RqIs W3 (.agg #[.int .i64 (n : Int), .slice x0 R.name.length y0, .slice x1 R.key.length y1, .slice x2 R.last.length y2, .slice x3 R.value.length y3]) R) := ⟨_, _, _, _, by rw [HK.out], (HO0.out.grownNone hgA3).slice, (HO1.out.grownNone hgA3).slice, (HO2.out.grownNone hgA3).slice, (HO3.out.grownNone hgA3).slice⟩
          clear hz
          go_upto_region 12 with fail
          rw [← HW3.out]
          obtain ⟨QB, hQB⟩ : ∃ QB, QB = W2.heap.size := ⟨_, rfl⟩
          rw [← hQB] at BQ ⊢
          clear hQB j0 j1 j2 j3
          obtain ⟨⟨j0, j1, j2, j3, j4⟩, hfz, _⟩ := five_room (grown_refl W3 none) BQ.out
          clear hfz
          go_wp2_with fail
          refine (CK.out _ _ hg03 HK.out HRQ.out).mono ?_
          rintro e w4 ⟨rfl, hg4⟩
          have hg04 := grown_trans hg03 hg4
          obtain ⟨⟨f0, f1, f2, f3, f4⟩, ⟨g0, g1, g2, g3, g4⟩, hR4⟩ := five_room hg04 B0.out
          clear j0 j1 j2 j3 j4
          obtain ⟨⟨j0, j1, j2, j3, j4⟩, hfz, _⟩ := five_room hg4 BQ.out
          clear hfz
          have HR4 : Hid (w4.heap[RB]? = some (.cells #[.int .i64 0, nilS, nilS, nilS, nilS] 24)) := hR4
          clear hR4
          by_cases hz : reqE R = 0
          · have rZ : Z = 0 := by rw [HZ2.out]; exact hz
            have rQ := HQO.out rZ
            have hzb : (reqE R != 0) = false := by simp [hz]
            have hQ5 := five_set HR4.out (.int .i64 (n : Int)) (.slice x0 R.name.length y0) (.slice x1 R.key.length y1) (.slice x2 R.last.length y2) (.slice x3 R.value.length y3)
            obtain ⟨⟨r0, r1, r2, r3, r4⟩, hfz, _⟩ := five_room (grown_refl _ none) hQ5
            have hgQ := five_grown (grown_trans hg0 hg04) HLE.out (.int .i64 (n : Int)) (.slice x0 R.name.length y0) (.slice x1 R.key.length y1) (.slice x2 R.last.length y2) (.slice x3 R.value.length y3)
            have hg24 := grown_trans hgA3 hg4
            have HRES : Hid (RqIs (set5 w4 RB (.int .i64 (n : Int)) (.slice x0 R.name.length y0) (.slice x1 R.key.length y1) (.slice x2 R.last.length y2) (.slice x3 R.value.length y3)) (.agg #[.int .i64 (n : Int), .slice x0 R.name.length y0, .slice x1 R.key.length y1, .slice x2 R.last.length y2, .slice x3 R.value.length y3]) R) := ⟨_, _, _, _, by rw [HK.out], ((HO0.out.grownNone hg24).later5 HLT.out _ _ _ _ _).slice, ((HO1.out.grownNone hg24).later5 HLT.out _ _ _ _ _).slice, ((HO2.out.grownNone hg24).later5 HLT.out _ _ _ _ _).slice, ((HO3.out.grownNone hg24).later5 HLT.out _ _ _ _ _).slice⟩
            subst rZ rQ
            clear hQ5 hfz HQB HQO HZE HZ2 hz
            go_wp2
            refine bodyPost_ret (v := .tuple #[.agg #[.int .i64 (n : Int), .slice x0 Q.name.length y0, .slice x1 Q.key.length y1, .slice x2 Q.last.length y2, .slice x3 Q.value.length y3], .int .i64 0]) (by simp [results, Tryd.results7, go_sem, r0, r1, r2, r3, r4]) rfl ?_
            exact ⟨_, rfl, HRES.out, hgQ⟩
          · have rQ := HQB.out (by rw [HZ2.out]; exact hz)
            have hzb : (reqE R != 0) = true := by simp [hz]
            have hQ5 := five_set HR4.out (.int .i64 0) nilS nilS nilS nilS
            obtain ⟨⟨r0, r1, r2, r3, r4⟩, hfz, _⟩ := five_room (grown_refl _ none) hQ5
            have hgQ := five_grown (grown_trans hg0 hg04) HLE.out (.int .i64 0) nilS nilS nilS nilS
            have HNQ : Hid (Q = noRq) := rQ
            have HZ3 : Hid (Z = reqE R) := HZ2.out
            generalize reqE R = F at *
            clear hQ5 hfz HQB HQO HZE HZ2 hz rQ
            go_wp2
            refine bodyPost_ret (v := .tuple #[.agg #[.int .i64 0, nilS, nilS, nilS, nilS], .int .i64 F]) (by simp [results, Tryd.results7, go_sem, r0, r1, r2, r3, r4]) rfl ?_
            exact ⟨_, by rw [HZ3.out], by rw [HNQ.out]; exact rqIs_no _, hgQ⟩
        · have HZ2 : Hid (Z = E) := by show _ = _; rw [HZE.out, if_neg hz]
          have rQ := HQB.out (by rw [HZ2.out]; exact hz)
          have hzb : (E != 0) = true := by simp [hz]
          have HNQ : Hid (Q = noRq) := rQ
          obtain ⟨⟨f0, f1, f2, f3, f4⟩, ⟨g0, g1, g2, g3, g4⟩, hR4⟩ := five_room hg02 B0.out
          have hQ5 := five_set hR4 (.int .i64 0) nilS nilS nilS nilS
          obtain ⟨⟨r0, r1, r2, r3, r4⟩, hfz, _⟩ := five_room (grown_refl _ none) hQ5
          have hgQ := five_grown (grown_trans hg0 hg02) HLE.out (.int .i64 0) nilS nilS nilS nilS
          clear hQ5 hfz HQB HQO HZE hz rQ hR4
          go_wp2
          refine bodyPost_ret (v := .tuple #[.agg #[.int .i64 0, nilS, nilS, nilS, nilS], .int .i64 E]) (by simp [results, Tryd.results7, go_sem, r0, r1, r2, r3, r4]) rfl ?_
          exact ⟨_, by rw [HZ2.out], by rw [HNQ.out]; exact rqIs_no _, hgQ⟩
      · rw [decide_eq_false hk] at IK
        obtain ⟨e1, e2⟩ := wdec_kind h4 h0 (by rw [hKD]; exact hk)
        rw [e1, e2]
        clear hv hb e1 e2 h4 h0 hk hnn hKD
        go_enter Tryd.func7, Tryd.ntmps7
        go_upto_region 1 with fail
        rw [← HW0.out]
        go_wp2_with fail
        refine IK.out.mono ?_
        rintro e w1 ⟨rfl, hw⟩
        rw [hw]
        clear hw
        go_wp2
        refine bodyPost_ret (v := .tuple #[.agg #[.int .i64 0, nilS, nilS, nilS, nilS], .int .i64 5]) (by simp [results, Tryd.results7, go_sem, z0, z1, z2, z3, z4]) rfl ?_
        exact ⟨_, rfl, rqIs_no _, hgZ⟩
end Go.Proofs.YtghjikifflpeiabDoor
