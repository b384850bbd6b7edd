/-
  wire.decodeTexts, as it landed.
-/
import Derived.Test.YtghjikifflpeiabDoorWrDtF
import Derived.Test.YtghjikifflpeiabDoorWrHas
import Derived.Test.YtghjikifflpeiabDoorBSlice
import Derived.Test.YtghjikifflpeiabDoorCloneP
import Derived.BigQuiet
import Derived.Deep.RegionHeld3
import Derived.Deep.RegionWith
import Derived.Handy
namespace Go.Proofs.YtghjikifflpeiabDoor
open Go.RowKit
abbrev nilS : Value := .slice none 0 0
theorem Own.laterS {base : Nat} {w : World} {v : Value} {bs : List UInt8} (h : Own base w v bs) {b : Nat} (hb : b < base) (i : Nat) (u : Value) : Own base (w.setCell ⟨b, i, none⟩ u) v bs := h.later (grown_set (grown_refl w _) i u) hb
theorem Own.later4 {base : Nat} {w : World} {v : Value} {bs : List UInt8} (h : Own base w v bs) {b : Nat} (hb : b < base) (x y z u : Value) : Own base (set4 w b x y z u) v bs := h.later (four_turn w b x y z u) hb
set_option maxRecDepth 100000 in
set_option maxHeartbeats 4000000 in
theorem decodeTexts_any (w : World) (hT : PrtT w) (k : Nat) (hk : k < 9) (v : Value) (b : List UInt8) (hv : SliceIs w v b) (hl : b.length ≤ 4000) :
    Calls Tryd.prog 16 #[.int .i64 (k : Int), v] w fun e w' => ∃ t0 t1 t2 t3, e = .returned (.tuple #[.agg #[t0, t1, t2, t3], .int .i64 (dtE (k : Int) b)]) ∧ Own w.heap.size w' t0 (dtR (k : Int) b).name ∧ Own w.heap.size w' t1 (dtR (k : Int) b).key ∧ Own w.heap.size w' t2 (dtR (k : Int) b).last ∧ Own w.heap.size w' t3 (dtR (k : Int) b).value ∧ w.grownBy w' none := by
  obtain ⟨a, cap, rfl⟩ := hv.shape
  obtain ⟨W0, HW0, hg0, BR0⟩ := alloc_namedR w (.cells #[nilS, nilS, nilS, nilS] 48)
  obtain ⟨W1, HW1, hg1, BL0⟩ := alloc_namedR W0 (.cells #[nilS, nilS, nilS, nilS] 48)
  have BR1 : Hid (W1.heap[w.heap.size]? = some (.cells #[nilS, nilS, nilS, nilS] 48)) := pair_old hg1 BR0.out
  have hs0 : W0.heap.size = w.heap.size + 1 := by rw [HW0.out]; simp
  have hs1 : W1.heap.size = w.heap.size + 2 := by rw [HW1.out]; simp [hs0]
  rw [hs0] at BL0
  have HX : Hid (W1 = (w.alloc (.cells #[nilS, nilS, nilS, nilS] 48)).alloc (.cells #[nilS, nilS, nilS, nilS] 48)) := by show _ = _; rw [HW1.out, HW0.out]
  have hg01 := grown_trans hg0 hg1
  have HSZ : Hid (w.heap.size + 2 = W1.heap.size) := hs1.symm
  have HV : Hid (SliceIs w (.slice a b.length cap) b) := hv
  obtain ⟨E, hE⟩ : ∃ E, E = dtE (k : Int) b := ⟨_, rfl⟩
  obtain ⟨R, hR⟩ : ∃ R, R = dtR (k : Int) b := ⟨_, rfl⟩
  have HNO : Hid (restD (k : Int) b = none → E = 14 ∧ R = noRq) := fun h => by rw [hE, hR]; exact dt_none h
  have HMO : Hid (∀ r x, restD (k : Int) b = some (r, x) → 0 < x.length → E = 4 ∧ R = noRq) := fun r x h hx => by rw [hE, hR]; exact dt_more h hx
  have HSO : Hid (∀ r x, restD (k : Int) b = some (r, x) → x.length = 0 → E = 0 ∧ R = r) := fun r x h hx => by rw [hE, hR]; exact dt_some h hx
  rw [← hE, ← hR]
  have H0 : Hid (∀ w', w.grownBy w' none → Calls Tryd.prog 18 #[.int .i64 (k : Int), .int .u8 1] w' fun e w'' => e = .returned (.bool (hasP (k : Int) 0)) ∧ w'' = w') := fun w' hg => has_any w' (hT.grown hg) k 0 hk (by omega)
  have H1 : Hid (∀ w', w.grownBy w' none → Calls Tryd.prog 18 #[.int .i64 (k : Int), .int .u8 2] w' fun e w'' => e = .returned (.bool (hasP (k : Int) 1)) ∧ w'' = w') := fun w' hg => has_any w' (hT.grown hg) k 1 hk (by omega)
  have H2 : Hid (∀ w', w.grownBy w' none → Calls Tryd.prog 18 #[.int .i64 (k : Int), .int .u8 4] w' fun e w'' => e = .returned (.bool (hasP (k : Int) 2)) ∧ w'' = w') := fun w' hg => has_any w' (hT.grown hg) k 2 hk (by omega)
  have H3 : Hid (∀ w', w.grownBy w' none → Calls Tryd.prog 18 #[.int .i64 (k : Int), .int .u8 8] w' fun e w'' => e = .returned (.bool (hasP (k : Int) 3)) ∧ w'' = w') := fun w' hg => has_any w' (hT.grown hg) k 3 hk (by omega)
  have HD0 : Hid (restTo (k : Int) 0 [] [] [] [] b = restD (k : Int) b) := rfl
  obtain ⟨RD, hRD⟩ : ∃ RD, RD = restD (k : Int) b := ⟨_, rfl⟩
  rw [← hRD] at HNO HMO HSO HD0
  clear hv hT hE hR hRD hs0 hs1 HW0 HW1 BR0 hg0 hg1
  go_enter Tryd.func16, Tryd.ntmps16
  go_upto_region 2 with fail
  rw [← HX.out]
  obtain ⟨RB, hRB⟩ : ∃ RB, RB = w.heap.size := ⟨_, rfl⟩
  obtain ⟨LB, hLB⟩ : ∃ LB, LB = w.heap.size + 1 := ⟨_, rfl⟩
  obtain ⟨base, hbase⟩ : ∃ base, base = W1.heap.size := ⟨_, rfl⟩
  have HRB : Hid (RB = w.heap.size) := hRB
  have hRB2 : w.heap.size ≤ RB := by omega
  have hLB2 : w.heap.size ≤ LB := by omega
  have hRL : RB < LB := by omega
  have hbL : LB < base := by have := HSZ.out; omega
  have hbR : RB < base := by omega
  have hbw : w.heap.size ≤ base := by omega
  rw [← hLB] at BL0 ⊢
  rw [← hRB] at BR1 ⊢
  have HBS : Hid (base = W1.heap.size) := hbase
  clear hRB hLB hbase HSZ
  go_wp2_with fail
  go_loopw [9, 1] (fun iv bv wr => ∃ (m : Nat) (t0 t1 t2 t3 : Value) (p0 p1 p2 p3 x : List UInt8), m ≤ 4 ∧ iv = .int .i64 (m : Int) ∧ SliceIs w bv x ∧ x.length ≤ 4000 ∧ (m ≤ 0 → t0 = nilS ∧ p0 = []) ∧ (m ≤ 1 → t1 = nilS ∧ p1 = []) ∧ (m ≤ 2 → t2 = nilS ∧ p2 = []) ∧ (m ≤ 3 → t3 = nilS ∧ p3 = []) ∧ Own base wr t0 p0 ∧ Own base wr t1 p1 ∧ Own base wr t2 p2 ∧ Own base wr t3 p3 ∧ wr.heap[LB]? = some (.cells #[t0, t1, t2, t3] 48) ∧ wr.heap[RB]? = some (.cells #[nilS, nilS, nilS, nilS] 48) ∧ restTo (k : Int) m p0 p1 p2 p3 x = RD ∧ base ≤ wr.heap.size ∧ w.grownBy wr none) (fun iv _ _ => 4 - (intOf iv).toNat)
  case atStart => exact ⟨0, _, _, _, _, [], [], [], [], b, by omega, rfl, HV.out, hl, fun _ => ⟨rfl, rfl⟩, fun _ => ⟨rfl, rfl⟩, fun _ => ⟨rfl, rfl⟩, fun _ => ⟨rfl, rfl⟩, own_nil _ _, own_nil _ _, own_nil _ _, own_nil _ _, BL0.out, BR1.out, HD0.out, by rw [HBS.out]; exact Nat.le_refl _, hg01⟩
  case round =>
    obtain ⟨m, t0, t1, t2, t3, p0, p1, p2, p3, x, hm, rfl, hx, hxl, z0, z1, z2, z3, o0, o1, o2, o3, hlb, hrb, hrd, hbz, hg⟩ := hrel
    obtain ⟨xa, xc, rfl⟩ := hx.shape
    have HXX : Hid (SliceIs w (.slice xa x.length xc) x) := hx
    have HO0 : Hid (Own base wr t0 p0) := o0
    have HO1 : Hid (Own base wr t1 p1) := o1
    have HO2 : Hid (Own base wr t2 p2) := o2
    have HO3 : Hid (Own base wr t3 p3) := o3
    have HLB : Hid (wr.heap[LB]? = some (.cells #[t0, t1, t2, t3] 48)) := hlb
    have HRBB : Hid (wr.heap[RB]? = some (.cells #[nilS, nilS, nilS, nilS] 48)) := hrb
    have HRD : Hid (restTo (k : Int) m p0 p1 p2 p3 x = RD) := hrd
    clear hx o0 o1 o2 o3 hlb hrb hrd
    have hm5 : m = 0 ∨ m = 1 ∨ m = 2 ∨ m = 3 ∨ m = 4 := by omega
    clear hm
    rcases hm5 with rfl | rfl | rfl | rfl | rfl
    · have HC : Hid (∀ n, Calls Tryd.prog 18 #[.int .i64 (k : Int), .int .u8 1] (wr.drewN n) fun e w'' => e = .returned (.bool (hasP (k : Int) 0)) ∧ w'' = wr.drewN n) := fun n => H0.out _ (grown_drewN hg n)
      have HC1 : Hid (Calls Tryd.prog 18 #[.int .i64 (k : Int), .int .u8 1] wr fun e w'' => e = .returned (.bool (hasP (k : Int) 0)) ∧ w'' = wr) := H0.out _ hg
      have Z0 : Hid (t0 = nilS ∧ p0 = []) := z0 (by omega)
      have Z1 : Hid (t1 = nilS ∧ p1 = []) := z1 (by omega)
      have Z2 : Hid (t2 = nilS ∧ p2 = []) := z2 (by omega)
      have Z3 : Hid (t3 = nilS ∧ p3 = []) := z3 (by omega)
      clear z0 z1 z2 z3
      cases hB : hasP (k : Int) 0 with
      | false =>
        rw [hB] at HC1
        have HN : Hid (restTo (k : Int) 1 p0 p1 p2 p3 x = RD) := by
          have h1 := (restTo_not (k : Int) p0 p1 p2 p3 x).1 hB
          have h2 := Z0.out.2
          show _ = _
          rw [← HRD.out, h1, ← h2]
        clear hB
        go_wp2_with fail
        refine HC1.out.mono ?_
        rintro e w2 ⟨rfl, hw⟩
        rw [hw]
        clear hw
        go_wp2_with fail
        go_roundw
        case rel => exact ⟨1, _, _, _, _, p0, p1, p2, p3, x, by omega, rfl, HXX.out, hxl, fun h => absurd h (by omega), fun _ => Z1.out, fun _ => Z2.out, fun _ => Z3.out, HO0.out, HO1.out, HO2.out, HO3.out, HLB.out, HRBB.out, HN.out, hbz, hg⟩
        case measure => simp [intOf]
      | true =>
        have HHB : Hid (hasP (k : Int) 0 = true) := hB
        rw [hB] at HC1
        clear hB
        have HNN : Hid (pieceL x = none → E = 14 ∧ R = noRq) := fun h => HNO.out (by rw [← HRD.out]; exact restTo_none _ _ _ _ _ _ h 0 (by omega) HHB.out)
        have HNS : Hid (∀ p r2, pieceL x = some (p, r2) → restTo (k : Int) 1 p p1 p2 p3 r2 = RD) := fun p r2 h => by rw [← HRD.out]; exact ((restTo_some (k : Int) p0 p1 p2 p3 x p r2 h).1 HHB.out).symm
        clear HRD
        by_cases hx0 : x.length = 0
        · obtain ⟨rE, rR⟩ := HNN.out (partD_end x hx0)
          subst rE rR
          have i0 : ((x.length : Int) == 0) = true := beq_iff_eq.2 (by omega)
          obtain ⟨⟨f0, f1, f2, f3⟩, g0, g1, g2, g3, _⟩ := quad_room (grown_refl wr none) HRBB.out
          have hQ := four_set HRBB.out nilS nilS nilS nilS
          obtain ⟨⟨r0, r1, r2, r3⟩, _⟩ := quad_room (grown_refl _ none) hQ
          have hgQ := four_grown hg hRB2 nilS nilS nilS nilS
          clear hQ hx0
          go_wp2_with fail
          refine HC1.out.mono ?_
          rintro e w2 ⟨rfl, hw⟩
          rw [hw]
          clear hw
          go_wp2
          refine bodyPost_ret (v := .tuple #[.agg #[nilS, nilS, nilS, nilS], .int .i64 14]) (by simp [results, Tryd.results16, go_sem, r0, r1, r2, r3]) rfl ?_
          exact ⟨_, _, _, _, rfl, own_nil _ _, own_nil _ _, own_nil _ _, own_nil _ _, hgQ⟩
        · obtain ⟨pb, po, rfl, hb⟩ := HXX.out.byte 0 (by omega)
          have c0 := hb.grown hg (by simp) 0 (by omega)
          rw [Nat.add_zero] at c0
          have hn256 := (x.getD 0 0).toNat_lt
          have hx1 : 0 < x.length := by omega
          have HP := partD_at x (by omega)
          generalize hnn : (x.getD 0 0).toNat = n at *
          have i0 : ((x.length : Int) == 0) = false := beq_eq_false_iff_ne.2 (by omega)
          clear hb hnn
          by_cases hc : 1 + n ≤ x.length
          · rw [if_pos hc] at HP
            have HRD2 : Hid (restTo (k : Int) 1 ((x.take (1 + n)).drop 1) p1 p2 p3 (x.drop (1 + n)) = RD) := HNS.out _ _ HP
            have i1 : decide ((x.length : Int) - 1 < (n : Int)) = false := decide_eq_false (by omega)
            obtain ⟨a1, s1, r1, r2⟩ := bslice_lh (some ⟨pb, po, none⟩) xc x 1 (1 + n) (by omega) hc HXX.out.cap.1
            obtain ⟨a2, s2, r3, r4⟩ := bslice_l (some ⟨pb, po, none⟩) xc x (1 + n) hc
            rw [show 1 + n - 1 = n by omega] at r1 r2
            have hlen : ((x.take (1 + n)).drop 1).length = n := by simp only [List.length_drop, List.length_take]; omega
            have hlen2 : (x.drop (1 + n)).length = x.length - (1 + n) := by simp only [List.length_drop]
            have HS1 : Hid (∀ W, w.grownBy W none → SliceIs W (.slice a1 n s1) ((x.take (1 + n)).drop 1)) := fun W h => (r2 w HXX.out).grown h
            have HS2 : Hid (SliceIs w (.slice a2 (x.length - (1 + n)) s2) (x.drop (1 + n))) := r4 w HXX.out
            generalize (x.take (1 + n)).drop 1 = y at *
            generalize x.drop (1 + n) = x2 at *
            have q1 : ∀ W, (Instr.slice 22 (.slice (some ⟨pb, po, none⟩) x.length xc) (some (.int .i64 1)) (some (.int .i64 (1 + (n : Int)))) none).run Tryd.prog W = .ok (.slice a1 n s1) W := fun W => by
              have := r1 W
              rw [show ((1 : Nat) : Int) = 1 by rfl, show ((1 + n : Nat) : Int) = 1 + (n : Int) by omega] at this
              exact this
            have q2 : ∀ W, (Instr.slice 22 (.slice (some ⟨pb, po, none⟩) x.length xc) (some (.int .i64 (1 + (n : Int)))) none none).run Tryd.prog W = .ok (.slice a2 (x.length - (1 + n)) s2) W := fun W => by
              have := r3 W
              rw [show ((1 + n : Nat) : Int) = 1 + (n : Int) by omega] at this
              exact this
            have HLY : Hid (y.length = n) := hlen
            have hyl : n ≤ 4000 := by omega
            have CL : Hid (∀ W, w.grownBy W none → Calls Tryd.prog 22 #[.slice a1 n s1] W fun e w'' => ∃ v', e = .returned v' ∧ Own W.heap.size w'' v' y ∧ W.grownBy w'' none) := fun W h => clone_any W _ y (HS1.out W h) (by rw [HLY.out]; omega)
            have hx2 : x2.length ≤ 4000 := by omega
            have HX2 : Hid (x2.length = x.length - (1 + n)) := hlen2
            obtain ⟨z, hz⟩ : ∃ z, z = x.length - (1 + n) := ⟨_, rfl⟩
            rw [← hz] at HX2 HS2 q2
            clear r1 r2 r3 r4 hlen hlen2 HP HNN HNS hz
            go_wp2_with fail
            refine HC1.out.mono ?_
            rintro e w2 ⟨rfl, hw⟩
            rw [hw]
            clear hw
            go_upto_region 9 with fail
            have hgd := grown_drew (grown_refl wr none)
            go_region_held3 (fun _ => True) (first | trivial) (first
              | (go_at_call 22; refine (CL.out _ (grown_trans hg hgd)).mono ?_; rintro e w3 ⟨v3, rfl, ho3, hg3⟩; obtain ⟨ya, yc, rfl⟩ := ho3.shape; obtain ⟨⟨f0, f1, f2, f3⟩, g0, g1, g2, g3, _⟩ := quad_room (grown_trans hgd hg3) HLB.out))
            have hgr := grown_trans hgd hg3
            have hg03 := grown_trans hg hgr
            have hb3 : base ≤ w3.heap.size := Nat.le_trans hbz hgr.size
            have NO0 : Hid (Own base (w3.setCell ⟨LB, 0, none⟩ (.slice ya y.length yc)) (.slice ya y.length yc) y) := (own_mono ho3 hbz).laterS hbL 0 _
            have NO1 : Hid (Own base (w3.setCell ⟨LB, 0, none⟩ (.slice ya y.length yc)) t1 p1) := (HO1.out.grownNone hgr).laterS hbL 0 _
            have NO2 : Hid (Own base (w3.setCell ⟨LB, 0, none⟩ (.slice ya y.length yc)) t2 p2) := (HO2.out.grownNone hgr).laterS hbL 0 _
            have NO3 : Hid (Own base (w3.setCell ⟨LB, 0, none⟩ (.slice ya y.length yc)) t3 p3) := (HO3.out.grownNone hgr).laterS hbL 0 _
            have NL : Hid ((w3.setCell ⟨LB, 0, none⟩ (.slice ya y.length yc)).heap[LB]? = some (.cells #[.slice ya y.length yc, t1, t2, t3] 48)) := set_selfR (pair_old hgr HLB.out)
            have NR : Hid ((w3.setCell ⟨LB, 0, none⟩ (.slice ya y.length yc)).heap[RB]? = some (.cells #[nilS, nilS, nilS, nilS] 48)) := set_apartR (pair_old hgr HRBB.out) (by omega)
            have hgN : w.grownBy (w3.setCell ⟨LB, 0, none⟩ (.slice ya y.length yc)) none := grown_setNew hg03 LB hLB2 0 _
            have hbN : base ≤ (w3.setCell ⟨LB, 0, none⟩ (.slice ya y.length yc)).heap.size := by simpa [World.setCell] using hb3
            clear ho3 HO0 HO1 HO2 HO3 HLB HRBB f0 f1 f2 f3 g0 g1 g2 g3
            generalize w3.setCell ⟨LB, 0, none⟩ (.slice ya y.length yc) = wN at *
            go_wp2_with fail
            go_roundw
            case rel => exact ⟨1, _, _, _, _, y, p1, p2, p3, x2, by omega, rfl, HS2.out, hx2, fun h => absurd h (by omega), fun _ => Z1.out, fun _ => Z2.out, fun _ => Z3.out, NO0.out, NO1.out, NO2.out, NO3.out, NL.out, NR.out, HRD2.out, hbN, hgN⟩
            case measure => simp [intOf]
          · rw [if_neg hc] at HP
            obtain ⟨rE, rR⟩ := HNN.out HP
            subst rE rR
            have i1 : decide ((x.length : Int) - 1 < (n : Int)) = true := decide_eq_true (by omega)
            obtain ⟨⟨f0, f1, f2, f3⟩, g0, g1, g2, g3, _⟩ := quad_room (grown_refl wr none) HRBB.out
            have hQ := four_set HRBB.out nilS nilS nilS nilS
            obtain ⟨⟨r0, r1, r2, r3⟩, _⟩ := quad_room (grown_refl _ none) hQ
            have hgQ := four_grown hg hRB2 nilS nilS nilS nilS
            clear hQ hc HP hx0
            go_wp2_with fail
            refine HC1.out.mono ?_
            rintro e w2 ⟨rfl, hw⟩
            rw [hw]
            clear hw
            go_wp2
            refine bodyPost_ret (v := .tuple #[.agg #[nilS, nilS, nilS, nilS], .int .i64 14]) (by simp [results, Tryd.results16, go_sem, r0, r1, r2, r3]) rfl ?_
            exact ⟨_, _, _, _, rfl, own_nil _ _, own_nil _ _, own_nil _ _, own_nil _ _, hgQ⟩
    · have HC : Hid (∀ n, Calls Tryd.prog 18 #[.int .i64 (k : Int), .int .u8 2] (wr.drewN n) fun e w'' => e = .returned (.bool (hasP (k : Int) 1)) ∧ w'' = wr.drewN n) := fun n => H1.out _ (grown_drewN hg n)
      have HC1 : Hid (Calls Tryd.prog 18 #[.int .i64 (k : Int), .int .u8 2] wr fun e w'' => e = .returned (.bool (hasP (k : Int) 1)) ∧ w'' = wr) := H1.out _ hg
      have Z1 : Hid (t1 = nilS ∧ p1 = []) := z1 (by omega)
      have Z2 : Hid (t2 = nilS ∧ p2 = []) := z2 (by omega)
      have Z3 : Hid (t3 = nilS ∧ p3 = []) := z3 (by omega)
      clear z0 z1 z2 z3
      cases hB : hasP (k : Int) 1 with
      | false =>
        rw [hB] at HC1
        have HN : Hid (restTo (k : Int) 2 p0 p1 p2 p3 x = RD) := by
          have h1 := (restTo_not (k : Int) p0 p1 p2 p3 x).2.1 hB
          have h2 := Z1.out.2
          show _ = _
          rw [← HRD.out, h1, ← h2]
        clear hB
        go_wp2_with fail
        refine HC1.out.mono ?_
        rintro e w2 ⟨rfl, hw⟩
        rw [hw]
        clear hw
        go_wp2_with fail
        go_roundw
        case rel => exact ⟨2, _, _, _, _, p0, p1, p2, p3, x, by omega, rfl, HXX.out, hxl, fun h => absurd h (by omega), fun h => absurd h (by omega), fun _ => Z2.out, fun _ => Z3.out, HO0.out, HO1.out, HO2.out, HO3.out, HLB.out, HRBB.out, HN.out, hbz, hg⟩
        case measure => simp [intOf]
      | true =>
        have HHB : Hid (hasP (k : Int) 1 = true) := hB
        rw [hB] at HC1
        clear hB
        have HNN : Hid (pieceL x = none → E = 14 ∧ R = noRq) := fun h => HNO.out (by rw [← HRD.out]; exact restTo_none _ _ _ _ _ _ h 1 (by omega) HHB.out)
        have HNS : Hid (∀ p r2, pieceL x = some (p, r2) → restTo (k : Int) 2 p0 p p2 p3 r2 = RD) := fun p r2 h => by rw [← HRD.out]; exact ((restTo_some (k : Int) p0 p1 p2 p3 x p r2 h).2.1 HHB.out).symm
        clear HRD
        by_cases hx0 : x.length = 0
        · obtain ⟨rE, rR⟩ := HNN.out (partD_end x hx0)
          subst rE rR
          have i0 : ((x.length : Int) == 0) = true := beq_iff_eq.2 (by omega)
          obtain ⟨⟨f0, f1, f2, f3⟩, g0, g1, g2, g3, _⟩ := quad_room (grown_refl wr none) HRBB.out
          have hQ := four_set HRBB.out nilS nilS nilS nilS
          obtain ⟨⟨r0, r1, r2, r3⟩, _⟩ := quad_room (grown_refl _ none) hQ
          have hgQ := four_grown hg hRB2 nilS nilS nilS nilS
          clear hQ hx0
          go_wp2_with fail
          refine HC1.out.mono ?_
          rintro e w2 ⟨rfl, hw⟩
          rw [hw]
          clear hw
          go_wp2
          refine bodyPost_ret (v := .tuple #[.agg #[nilS, nilS, nilS, nilS], .int .i64 14]) (by simp [results, Tryd.results16, go_sem, r0, r1, r2, r3]) rfl ?_
          exact ⟨_, _, _, _, rfl, own_nil _ _, own_nil _ _, own_nil _ _, own_nil _ _, hgQ⟩
        · obtain ⟨pb, po, rfl, hb⟩ := HXX.out.byte 0 (by omega)
          have c0 := hb.grown hg (by simp) 0 (by omega)
          rw [Nat.add_zero] at c0
          have hn256 := (x.getD 0 0).toNat_lt
          have hx1 : 0 < x.length := by omega
          have HP := partD_at x (by omega)
          generalize hnn : (x.getD 0 0).toNat = n at *
          have i0 : ((x.length : Int) == 0) = false := beq_eq_false_iff_ne.2 (by omega)
          clear hb hnn
          by_cases hc : 1 + n ≤ x.length
          · rw [if_pos hc] at HP
            have HRD2 : Hid (restTo (k : Int) 2 p0 ((x.take (1 + n)).drop 1) p2 p3 (x.drop (1 + n)) = RD) := HNS.out _ _ HP
            have i1 : decide ((x.length : Int) - 1 < (n : Int)) = false := decide_eq_false (by omega)
            obtain ⟨a1, s1, r1, r2⟩ := bslice_lh (some ⟨pb, po, none⟩) xc x 1 (1 + n) (by omega) hc HXX.out.cap.1
            obtain ⟨a2, s2, r3, r4⟩ := bslice_l (some ⟨pb, po, none⟩) xc x (1 + n) hc
            rw [show 1 + n - 1 = n by omega] at r1 r2
            have hlen : ((x.take (1 + n)).drop 1).length = n := by simp only [List.length_drop, List.length_take]; omega
            have hlen2 : (x.drop (1 + n)).length = x.length - (1 + n) := by simp only [List.length_drop]
            have HS1 : Hid (∀ W, w.grownBy W none → SliceIs W (.slice a1 n s1) ((x.take (1 + n)).drop 1)) := fun W h => (r2 w HXX.out).grown h
            have HS2 : Hid (SliceIs w (.slice a2 (x.length - (1 + n)) s2) (x.drop (1 + n))) := r4 w HXX.out
            generalize (x.take (1 + n)).drop 1 = y at *
            generalize x.drop (1 + n) = x2 at *
            have q1 : ∀ W, (Instr.slice 22 (.slice (some ⟨pb, po, none⟩) x.length xc) (some (.int .i64 1)) (some (.int .i64 (1 + (n : Int)))) none).run Tryd.prog W = .ok (.slice a1 n s1) W := fun W => by
              have := r1 W
              rw [show ((1 : Nat) : Int) = 1 by rfl, show ((1 + n : Nat) : Int) = 1 + (n : Int) by omega] at this
              exact this
            have q2 : ∀ W, (Instr.slice 22 (.slice (some ⟨pb, po, none⟩) x.length xc) (some (.int .i64 (1 + (n : Int)))) none none).run Tryd.prog W = .ok (.slice a2 (x.length - (1 + n)) s2) W := fun W => by
              have := r3 W
              rw [show ((1 + n : Nat) : Int) = 1 + (n : Int) by omega] at this
              exact this
            have HLY : Hid (y.length = n) := hlen
            have hyl : n ≤ 4000 := by omega
            have CL : Hid (∀ W, w.grownBy W none → Calls Tryd.prog 22 #[.slice a1 n s1] W fun e w'' => ∃ v', e = .returned v' ∧ Own W.heap.size w'' v' y ∧ W.grownBy w'' none) := fun W h => clone_any W _ y (HS1.out W h) (by rw [HLY.out]; omega)
            have hx2 : x2.length ≤ 4000 := by omega
            have HX2 : Hid (x2.length = x.length - (1 + n)) := hlen2
            obtain ⟨z, hz⟩ : ∃ z, z = x.length - (1 + n) := ⟨_, rfl⟩
            rw [← hz] at HX2 HS2 q2
            clear r1 r2 r3 r4 hlen hlen2 HP HNN HNS hz
            go_wp2_with fail
            refine HC1.out.mono ?_
            rintro e w2 ⟨rfl, hw⟩
            rw [hw]
            clear hw
            go_upto_region 9 with fail
            have hgd := grown_drew (grown_refl wr none)
            go_region_held3 (fun _ => True) (first | trivial) (first
              | (go_at_call 22; refine (CL.out _ (grown_trans hg hgd)).mono ?_; rintro e w3 ⟨v3, rfl, ho3, hg3⟩; obtain ⟨ya, yc, rfl⟩ := ho3.shape; obtain ⟨⟨f0, f1, f2, f3⟩, g0, g1, g2, g3, _⟩ := quad_room (grown_trans hgd hg3) HLB.out))
            have hgr := grown_trans hgd hg3
            have hg03 := grown_trans hg hgr
            have hb3 : base ≤ w3.heap.size := Nat.le_trans hbz hgr.size
            have NO1 : Hid (Own base (w3.setCell ⟨LB, 1, none⟩ (.slice ya y.length yc)) (.slice ya y.length yc) y) := (own_mono ho3 hbz).laterS hbL 1 _
            have NO0 : Hid (Own base (w3.setCell ⟨LB, 1, none⟩ (.slice ya y.length yc)) t0 p0) := (HO0.out.grownNone hgr).laterS hbL 1 _
            have NO2 : Hid (Own base (w3.setCell ⟨LB, 1, none⟩ (.slice ya y.length yc)) t2 p2) := (HO2.out.grownNone hgr).laterS hbL 1 _
            have NO3 : Hid (Own base (w3.setCell ⟨LB, 1, none⟩ (.slice ya y.length yc)) t3 p3) := (HO3.out.grownNone hgr).laterS hbL 1 _
            have NL : Hid ((w3.setCell ⟨LB, 1, none⟩ (.slice ya y.length yc)).heap[LB]? = some (.cells #[t0, .slice ya y.length yc, t2, t3] 48)) := set_selfR (pair_old hgr HLB.out)
            have NR : Hid ((w3.setCell ⟨LB, 1, none⟩ (.slice ya y.length yc)).heap[RB]? = some (.cells #[nilS, nilS, nilS, nilS] 48)) := set_apartR (pair_old hgr HRBB.out) (by omega)
            have hgN : w.grownBy (w3.setCell ⟨LB, 1, none⟩ (.slice ya y.length yc)) none := grown_setNew hg03 LB hLB2 1 _
            have hbN : base ≤ (w3.setCell ⟨LB, 1, none⟩ (.slice ya y.length yc)).heap.size := by simpa [World.setCell] using hb3
            clear ho3 HO0 HO1 HO2 HO3 HLB HRBB f0 f1 f2 f3 g0 g1 g2 g3
            generalize w3.setCell ⟨LB, 1, none⟩ (.slice ya y.length yc) = wN at *
            go_wp2_with fail
            go_roundw
            case rel => exact ⟨2, _, _, _, _, p0, y, p2, p3, x2, by omega, rfl, HS2.out, hx2, fun h => absurd h (by omega), fun h => absurd h (by omega), fun _ => Z2.out, fun _ => Z3.out, NO0.out, NO1.out, NO2.out, NO3.out, NL.out, NR.out, HRD2.out, hbN, hgN⟩
            case measure => simp [intOf]
          · rw [if_neg hc] at HP
            obtain ⟨rE, rR⟩ := HNN.out HP
            subst rE rR
            have i1 : decide ((x.length : Int) - 1 < (n : Int)) = true := decide_eq_true (by omega)
            obtain ⟨⟨f0, f1, f2, f3⟩, g0, g1, g2, g3, _⟩ := quad_room (grown_refl wr none) HRBB.out
            have hQ := four_set HRBB.out nilS nilS nilS nilS
            obtain ⟨⟨r0, r1, r2, r3⟩, _⟩ := quad_room (grown_refl _ none) hQ
            have hgQ := four_grown hg hRB2 nilS nilS nilS nilS
            clear hQ hc HP hx0
            go_wp2_with fail
            refine HC1.out.mono ?_
            rintro e w2 ⟨rfl, hw⟩
            rw [hw]
            clear hw
            go_wp2
            refine bodyPost_ret (v := .tuple #[.agg #[nilS, nilS, nilS, nilS], .int .i64 14]) (by simp [results, Tryd.results16, go_sem, r0, r1, r2, r3]) rfl ?_
            exact ⟨_, _, _, _, rfl, own_nil _ _, own_nil _ _, own_nil _ _, own_nil _ _, hgQ⟩
    · have HC : Hid (∀ n, Calls Tryd.prog 18 #[.int .i64 (k : Int), .int .u8 4] (wr.drewN n) fun e w'' => e = .returned (.bool (hasP (k : Int) 2)) ∧ w'' = wr.drewN n) := fun n => H2.out _ (grown_drewN hg n)
      have HC1 : Hid (Calls Tryd.prog 18 #[.int .i64 (k : Int), .int .u8 4] wr fun e w'' => e = .returned (.bool (hasP (k : Int) 2)) ∧ w'' = wr) := H2.out _ hg
      have Z2 : Hid (t2 = nilS ∧ p2 = []) := z2 (by omega)
      have Z3 : Hid (t3 = nilS ∧ p3 = []) := z3 (by omega)
      clear z0 z1 z2 z3
      cases hB : hasP (k : Int) 2 with
      | false =>
        rw [hB] at HC1
        have HN : Hid (restTo (k : Int) 3 p0 p1 p2 p3 x = RD) := by
          have h1 := (restTo_not (k : Int) p0 p1 p2 p3 x).2.2.1 hB
          have h2 := Z2.out.2
          show _ = _
          rw [← HRD.out, h1, ← h2]
        clear hB
        go_wp2_with fail
        refine HC1.out.mono ?_
        rintro e w2 ⟨rfl, hw⟩
        rw [hw]
        clear hw
        go_wp2_with fail
        go_roundw
        case rel => exact ⟨3, _, _, _, _, p0, p1, p2, p3, x, by omega, rfl, HXX.out, hxl, fun h => absurd h (by omega), fun h => absurd h (by omega), fun h => absurd h (by omega), fun _ => Z3.out, HO0.out, HO1.out, HO2.out, HO3.out, HLB.out, HRBB.out, HN.out, hbz, hg⟩
        case measure => simp [intOf]
      | true =>
        have HHB : Hid (hasP (k : Int) 2 = true) := hB
        rw [hB] at HC1
        clear hB
        have HNN : Hid (pieceL x = none → E = 14 ∧ R = noRq) := fun h => HNO.out (by rw [← HRD.out]; exact restTo_none _ _ _ _ _ _ h 2 (by omega) HHB.out)
        have HNS : Hid (∀ p r2, pieceL x = some (p, r2) → restTo (k : Int) 3 p0 p1 p p3 r2 = RD) := fun p r2 h => by rw [← HRD.out]; exact ((restTo_some (k : Int) p0 p1 p2 p3 x p r2 h).2.2.1 HHB.out).symm
        clear HRD
        by_cases hx0 : x.length = 0
        · obtain ⟨rE, rR⟩ := HNN.out (partD_end x hx0)
          subst rE rR
          have i0 : ((x.length : Int) == 0) = true := beq_iff_eq.2 (by omega)
          obtain ⟨⟨f0, f1, f2, f3⟩, g0, g1, g2, g3, _⟩ := quad_room (grown_refl wr none) HRBB.out
          have hQ := four_set HRBB.out nilS nilS nilS nilS
          obtain ⟨⟨r0, r1, r2, r3⟩, _⟩ := quad_room (grown_refl _ none) hQ
          have hgQ := four_grown hg hRB2 nilS nilS nilS nilS
          clear hQ hx0
          go_wp2_with fail
          refine HC1.out.mono ?_
          rintro e w2 ⟨rfl, hw⟩
          rw [hw]
          clear hw
          go_wp2
          refine bodyPost_ret (v := .tuple #[.agg #[nilS, nilS, nilS, nilS], .int .i64 14]) (by simp [results, Tryd.results16, go_sem, r0, r1, r2, r3]) rfl ?_
          exact ⟨_, _, _, _, rfl, own_nil _ _, own_nil _ _, own_nil _ _, own_nil _ _, hgQ⟩
        · obtain ⟨pb, po, rfl, hb⟩ := HXX.out.byte 0 (by omega)
          have c0 := hb.grown hg (by simp) 0 (by omega)
          rw [Nat.add_zero] at c0
          have hn256 := (x.getD 0 0).toNat_lt
          have hx1 : 0 < x.length := by omega
          have HP := partD_at x (by omega)
          generalize hnn : (x.getD 0 0).toNat = n at *
          have i0 : ((x.length : Int) == 0) = false := beq_eq_false_iff_ne.2 (by omega)
          clear hb hnn
          by_cases hc : 1 + n ≤ x.length
          · rw [if_pos hc] at HP
            have HRD2 : Hid (restTo (k : Int) 3 p0 p1 ((x.take (1 + n)).drop 1) p3 (x.drop (1 + n)) = RD) := HNS.out _ _ HP
            have i1 : decide ((x.length : Int) - 1 < (n : Int)) = false := decide_eq_false (by omega)
            obtain ⟨a1, s1, r1, r2⟩ := bslice_lh (some ⟨pb, po, none⟩) xc x 1 (1 + n) (by omega) hc HXX.out.cap.1
            obtain ⟨a2, s2, r3, r4⟩ := bslice_l (some ⟨pb, po, none⟩) xc x (1 + n) hc
            rw [show 1 + n - 1 = n by omega] at r1 r2
            have hlen : ((x.take (1 + n)).drop 1).length = n := by simp only [List.length_drop, List.length_take]; omega
            have hlen2 : (x.drop (1 + n)).length = x.length - (1 + n) := by simp only [List.length_drop]
            have HS1 : Hid (∀ W, w.grownBy W none → SliceIs W (.slice a1 n s1) ((x.take (1 + n)).drop 1)) := fun W h => (r2 w HXX.out).grown h
            have HS2 : Hid (SliceIs w (.slice a2 (x.length - (1 + n)) s2) (x.drop (1 + n))) := r4 w HXX.out
            generalize (x.take (1 + n)).drop 1 = y at *
            generalize x.drop (1 + n) = x2 at *
            have q1 : ∀ W, (Instr.slice 22 (.slice (some ⟨pb, po, none⟩) x.length xc) (some (.int .i64 1)) (some (.int .i64 (1 + (n : Int)))) none).run Tryd.prog W = .ok (.slice a1 n s1) W := fun W => by
              have := r1 W
              rw [show ((1 : Nat) : Int) = 1 by rfl, show ((1 + n : Nat) : Int) = 1 + (n : Int) by omega] at this
              exact this
            have q2 : ∀ W, (Instr.slice 22 (.slice (some ⟨pb, po, none⟩) x.length xc) (some (.int .i64 (1 + (n : Int)))) none none).run Tryd.prog W = .ok (.slice a2 (x.length - (1 + n)) s2) W := fun W => by
              have := r3 W
              rw [show ((1 + n : Nat) : Int) = 1 + (n : Int) by omega] at this
              exact this
            have HLY : Hid (y.length = n) := hlen
            have hyl : n ≤ 4000 := by omega
            have CL : Hid (∀ W, w.grownBy W none → Calls Tryd.prog 22 #[.slice a1 n s1] W fun e w'' => ∃ v', e = .returned v' ∧ Own W.heap.size w'' v' y ∧ W.grownBy w'' none) := fun W h => clone_any W _ y (HS1.out W h) (by rw [HLY.out]; omega)
            have hx2 : x2.length ≤ 4000 := by omega
            have HX2 : Hid (x2.length = x.length - (1 + n)) := hlen2
            obtain ⟨z, hz⟩ : ∃ z, z = x.length - (1 + n) := ⟨_, rfl⟩
            rw [← hz] at HX2 HS2 q2
            clear r1 r2 r3 r4 hlen hlen2 HP HNN HNS hz
            go_wp2_with fail
            refine HC1.out.mono ?_
            rintro e w2 ⟨rfl, hw⟩
            rw [hw]
            clear hw
            go_upto_region 9 with fail
            have hgd := grown_drew (grown_refl wr none)
            go_region_held3 (fun _ => True) (first | trivial) (first
              | (go_at_call 22; refine (CL.out _ (grown_trans hg hgd)).mono ?_; rintro e w3 ⟨v3, rfl, ho3, hg3⟩; obtain ⟨ya, yc, rfl⟩ := ho3.shape; obtain ⟨⟨f0, f1, f2, f3⟩, g0, g1, g2, g3, _⟩ := quad_room (grown_trans hgd hg3) HLB.out))
            have hgr := grown_trans hgd hg3
            have hg03 := grown_trans hg hgr
            have hb3 : base ≤ w3.heap.size := Nat.le_trans hbz hgr.size
            have NO2 : Hid (Own base (w3.setCell ⟨LB, 2, none⟩ (.slice ya y.length yc)) (.slice ya y.length yc) y) := (own_mono ho3 hbz).laterS hbL 2 _
            have NO0 : Hid (Own base (w3.setCell ⟨LB, 2, none⟩ (.slice ya y.length yc)) t0 p0) := (HO0.out.grownNone hgr).laterS hbL 2 _
            have NO1 : Hid (Own base (w3.setCell ⟨LB, 2, none⟩ (.slice ya y.length yc)) t1 p1) := (HO1.out.grownNone hgr).laterS hbL 2 _
            have NO3 : Hid (Own base (w3.setCell ⟨LB, 2, none⟩ (.slice ya y.length yc)) t3 p3) := (HO3.out.grownNone hgr).laterS hbL 2 _
            have NL : Hid ((w3.setCell ⟨LB, 2, none⟩ (.slice ya y.length yc)).heap[LB]? = some (.cells #[t0, t1, .slice ya y.length yc, t3] 48)) := set_selfR (pair_old hgr HLB.out)
            have NR : Hid ((w3.setCell ⟨LB, 2, none⟩ (.slice ya y.length yc)).heap[RB]? = some (.cells #[nilS, nilS, nilS, nilS] 48)) := set_apartR (pair_old hgr HRBB.out) (by omega)
            have hgN : w.grownBy (w3.setCell ⟨LB, 2, none⟩ (.slice ya y.length yc)) none := grown_setNew hg03 LB hLB2 2 _
            have hbN : base ≤ (w3.setCell ⟨LB, 2, none⟩ (.slice ya y.length yc)).heap.size := by simpa [World.setCell] using hb3
            clear ho3 HO0 HO1 HO2 HO3 HLB HRBB f0 f1 f2 f3 g0 g1 g2 g3
            generalize w3.setCell ⟨LB, 2, none⟩ (.slice ya y.length yc) = wN at *
            go_wp2_with fail
            go_roundw
            case rel => exact ⟨3, _, _, _, _, p0, p1, y, p3, x2, by omega, rfl, HS2.out, hx2, fun h => absurd h (by omega), fun h => absurd h (by omega), fun h => absurd h (by omega), fun _ => Z3.out, NO0.out, NO1.out, NO2.out, NO3.out, NL.out, NR.out, HRD2.out, hbN, hgN⟩
            case measure => simp [intOf]
          · rw [if_neg hc] at HP
            obtain ⟨rE, rR⟩ := HNN.out HP
            subst rE rR
            have i1 : decide ((x.length : Int) - 1 < (n : Int)) = true := decide_eq_true (by omega)
            obtain ⟨⟨f0, f1, f2, f3⟩, g0, g1, g2, g3, _⟩ := quad_room (grown_refl wr none) HRBB.out
            have hQ := four_set HRBB.out nilS nilS nilS nilS
            obtain ⟨⟨r0, r1, r2, r3⟩, _⟩ := quad_room (grown_refl _ none) hQ
            have hgQ := four_grown hg hRB2 nilS nilS nilS nilS
            clear hQ hc HP hx0
            go_wp2_with fail
            refine HC1.out.mono ?_
            rintro e w2 ⟨rfl, hw⟩
            rw [hw]
            clear hw
            go_wp2
            refine bodyPost_ret (v := .tuple #[.agg #[nilS, nilS, nilS, nilS], .int .i64 14]) (by simp [results, Tryd.results16, go_sem, r0, r1, r2, r3]) rfl ?_
            exact ⟨_, _, _, _, rfl, own_nil _ _, own_nil _ _, own_nil _ _, own_nil _ _, hgQ⟩
    · have HC : Hid (∀ n, Calls Tryd.prog 18 #[.int .i64 (k : Int), .int .u8 8] (wr.drewN n) fun e w'' => e = .returned (.bool (hasP (k : Int) 3)) ∧ w'' = wr.drewN n) := fun n => H3.out _ (grown_drewN hg n)
      have HC1 : Hid (Calls Tryd.prog 18 #[.int .i64 (k : Int), .int .u8 8] wr fun e w'' => e = .returned (.bool (hasP (k : Int) 3)) ∧ w'' = wr) := H3.out _ hg
      have Z3 : Hid (t3 = nilS ∧ p3 = []) := z3 (by omega)
      clear z0 z1 z2 z3
      cases hB : hasP (k : Int) 3 with
      | false =>
        rw [hB] at HC1
        have HN : Hid (restTo (k : Int) 4 p0 p1 p2 p3 x = RD) := by
          have h1 := (restTo_not (k : Int) p0 p1 p2 p3 x).2.2.2 hB
          have h2 := Z3.out.2
          show _ = _
          rw [← HRD.out, h1, ← h2]
        clear hB
        go_wp2_with fail
        refine HC1.out.mono ?_
        rintro e w2 ⟨rfl, hw⟩
        rw [hw]
        clear hw
        go_wp2_with fail
        go_roundw
        case rel => exact ⟨4, _, _, _, _, p0, p1, p2, p3, x, by omega, rfl, HXX.out, hxl, fun h => absurd h (by omega), fun h => absurd h (by omega), fun h => absurd h (by omega), fun h => absurd h (by omega), HO0.out, HO1.out, HO2.out, HO3.out, HLB.out, HRBB.out, HN.out, hbz, hg⟩
        case measure => simp [intOf]
      | true =>
        have HHB : Hid (hasP (k : Int) 3 = true) := hB
        rw [hB] at HC1
        clear hB
        have HNN : Hid (pieceL x = none → E = 14 ∧ R = noRq) := fun h => HNO.out (by rw [← HRD.out]; exact restTo_none _ _ _ _ _ _ h 3 (by omega) HHB.out)
        have HNS : Hid (∀ p r2, pieceL x = some (p, r2) → restTo (k : Int) 4 p0 p1 p2 p r2 = RD) := fun p r2 h => by rw [← HRD.out]; exact ((restTo_some (k : Int) p0 p1 p2 p3 x p r2 h).2.2.2 HHB.out).symm
        clear HRD
        by_cases hx0 : x.length = 0
        · obtain ⟨rE, rR⟩ := HNN.out (partD_end x hx0)
          subst rE rR
          have i0 : ((x.length : Int) == 0) = true := beq_iff_eq.2 (by omega)
          obtain ⟨⟨f0, f1, f2, f3⟩, g0, g1, g2, g3, _⟩ := quad_room (grown_refl wr none) HRBB.out
          have hQ := four_set HRBB.out nilS nilS nilS nilS
          obtain ⟨⟨r0, r1, r2, r3⟩, _⟩ := quad_room (grown_refl _ none) hQ
          have hgQ := four_grown hg hRB2 nilS nilS nilS nilS
          clear hQ hx0
          go_wp2_with fail
          refine HC1.out.mono ?_
          rintro e w2 ⟨rfl, hw⟩
          rw [hw]
          clear hw
          go_wp2
          refine bodyPost_ret (v := .tuple #[.agg #[nilS, nilS, nilS, nilS], .int .i64 14]) (by simp [results, Tryd.results16, go_sem, r0, r1, r2, r3]) rfl ?_
          exact ⟨_, _, _, _, rfl, own_nil _ _, own_nil _ _, own_nil _ _, own_nil _ _, hgQ⟩
        · obtain ⟨pb, po, rfl, hb⟩ := HXX.out.byte 0 (by omega)
          have c0 := hb.grown hg (by simp) 0 (by omega)
          rw [Nat.add_zero] at c0
          have hn256 := (x.getD 0 0).toNat_lt
          have hx1 : 0 < x.length := by omega
          have HP := partD_at x (by omega)
          generalize hnn : (x.getD 0 0).toNat = n at *
          have i0 : ((x.length : Int) == 0) = false := beq_eq_false_iff_ne.2 (by omega)
          clear hb hnn
          by_cases hc : 1 + n ≤ x.length
          · rw [if_pos hc] at HP
            have HRD2 : Hid (restTo (k : Int) 4 p0 p1 p2 ((x.take (1 + n)).drop 1) (x.drop (1 + n)) = RD) := HNS.out _ _ HP
            have i1 : decide ((x.length : Int) - 1 < (n : Int)) = false := decide_eq_false (by omega)
            obtain ⟨a1, s1, r1, r2⟩ := bslice_lh (some ⟨pb, po, none⟩) xc x 1 (1 + n) (by omega) hc HXX.out.cap.1
            obtain ⟨a2, s2, r3, r4⟩ := bslice_l (some ⟨pb, po, none⟩) xc x (1 + n) hc
            rw [show 1 + n - 1 = n by omega] at r1 r2
            have hlen : ((x.take (1 + n)).drop 1).length = n := by simp only [List.length_drop, List.length_take]; omega
            have hlen2 : (x.drop (1 + n)).length = x.length - (1 + n) := by simp only [List.length_drop]
            have HS1 : Hid (∀ W, w.grownBy W none → SliceIs W (.slice a1 n s1) ((x.take (1 + n)).drop 1)) := fun W h => (r2 w HXX.out).grown h
            have HS2 : Hid (SliceIs w (.slice a2 (x.length - (1 + n)) s2) (x.drop (1 + n))) := r4 w HXX.out
            generalize (x.take (1 + n)).drop 1 = y at *
            generalize x.drop (1 + n) = x2 at *
            have q1 : ∀ W, (Instr.slice 22 (.slice (some ⟨pb, po, none⟩) x.length xc) (some (.int .i64 1)) (some (.int .i64 (1 + (n : Int)))) none).run Tryd.prog W = .ok (.slice a1 n s1) W := fun W => by
              have := r1 W
              rw [show ((1 : Nat) : Int) = 1 by rfl, show ((1 + n : Nat) : Int) = 1 + (n : Int) by omega] at this
              exact this
            have q2 : ∀ W, (Instr.slice 22 (.slice (some ⟨pb, po, none⟩) x.length xc) (some (.int .i64 (1 + (n : Int)))) none none).run Tryd.prog W = .ok (.slice a2 (x.length - (1 + n)) s2) W := fun W => by
              have := r3 W
              rw [show ((1 + n : Nat) : Int) = 1 + (n : Int) by omega] at this
              exact this
            have HLY : Hid (y.length = n) := hlen
            have hyl : n ≤ 4000 := by omega
            have CL : Hid (∀ W, w.grownBy W none → Calls Tryd.prog 22 #[.slice a1 n s1] W fun e w'' => ∃ v', e = .returned v' ∧ Own W.heap.size w'' v' y ∧ W.grownBy w'' none) := fun W h => clone_any W _ y (HS1.out W h) (by rw [HLY.out]; omega)
            have hx2 : x2.length ≤ 4000 := by omega
            have HX2 : Hid (x2.length = x.length - (1 + n)) := hlen2
            obtain ⟨z, hz⟩ : ∃ z, z = x.length - (1 + n) := ⟨_, rfl⟩
            rw [← hz] at HX2 HS2 q2
            clear r1 r2 r3 r4 hlen hlen2 HP HNN HNS hz
            go_wp2_with fail
            refine HC1.out.mono ?_
            rintro e w2 ⟨rfl, hw⟩
            rw [hw]
            clear hw
            go_upto_region 9 with fail
            have hgd := grown_drew (grown_refl wr none)
            go_region_held3 (fun _ => True) (first | trivial) (first
              | (go_at_call 22; refine (CL.out _ (grown_trans hg hgd)).mono ?_; rintro e w3 ⟨v3, rfl, ho3, hg3⟩; obtain ⟨ya, yc, rfl⟩ := ho3.shape; obtain ⟨⟨f0, f1, f2, f3⟩, g0, g1, g2, g3, _⟩ := quad_room (grown_trans hgd hg3) HLB.out))
            have hgr := grown_trans hgd hg3
            have hg03 := grown_trans hg hgr
            have hb3 : base ≤ w3.heap.size := Nat.le_trans hbz hgr.size
            have NO3 : Hid (Own base (w3.setCell ⟨LB, 3, none⟩ (.slice ya y.length yc)) (.slice ya y.length yc) y) := (own_mono ho3 hbz).laterS hbL 3 _
            have NO0 : Hid (Own base (w3.setCell ⟨LB, 3, none⟩ (.slice ya y.length yc)) t0 p0) := (HO0.out.grownNone hgr).laterS hbL 3 _
            have NO1 : Hid (Own base (w3.setCell ⟨LB, 3, none⟩ (.slice ya y.length yc)) t1 p1) := (HO1.out.grownNone hgr).laterS hbL 3 _
            have NO2 : Hid (Own base (w3.setCell ⟨LB, 3, none⟩ (.slice ya y.length yc)) t2 p2) := (HO2.out.grownNone hgr).laterS hbL 3 _
            have NL : Hid ((w3.setCell ⟨LB, 3, none⟩ (.slice ya y.length yc)).heap[LB]? = some (.cells #[t0, t1, t2, .slice ya y.length yc] 48)) := set_selfR (pair_old hgr HLB.out)
            have NR : Hid ((w3.setCell ⟨LB, 3, none⟩ (.slice ya y.length yc)).heap[RB]? = some (.cells #[nilS, nilS, nilS, nilS] 48)) := set_apartR (pair_old hgr HRBB.out) (by omega)
            have hgN : w.grownBy (w3.setCell ⟨LB, 3, none⟩ (.slice ya y.length yc)) none := grown_setNew hg03 LB hLB2 3 _
            have hbN : base ≤ (w3.setCell ⟨LB, 3, none⟩ (.slice ya y.length yc)).heap.size := by simpa [World.setCell] using hb3
            clear ho3 HO0 HO1 HO2 HO3 HLB HRBB f0 f1 f2 f3 g0 g1 g2 g3
            generalize w3.setCell ⟨LB, 3, none⟩ (.slice ya y.length yc) = wN at *
            go_wp2_with fail
            go_roundw
            case rel => exact ⟨4, _, _, _, _, p0, p1, p2, y, x2, by omega, rfl, HS2.out, hx2, fun h => absurd h (by omega), fun h => absurd h (by omega), fun h => absurd h (by omega), fun h => absurd h (by omega), NO0.out, NO1.out, NO2.out, NO3.out, NL.out, NR.out, HRD2.out, hbN, hgN⟩
            case measure => simp [intOf]
          · rw [if_neg hc] at HP
            obtain ⟨rE, rR⟩ := HNN.out HP
            subst rE rR
            have i1 : decide ((x.length : Int) - 1 < (n : Int)) = true := decide_eq_true (by omega)
            obtain ⟨⟨f0, f1, f2, f3⟩, g0, g1, g2, g3, _⟩ := quad_room (grown_refl wr none) HRBB.out
            have hQ := four_set HRBB.out nilS nilS nilS nilS
            obtain ⟨⟨r0, r1, r2, r3⟩, _⟩ := quad_room (grown_refl _ none) hQ
            have hgQ := four_grown hg hRB2 nilS nilS nilS nilS
            clear hQ hc HP hx0
            go_wp2_with fail
            refine HC1.out.mono ?_
            rintro e w2 ⟨rfl, hw⟩
            rw [hw]
            clear hw
            go_wp2
            refine bodyPost_ret (v := .tuple #[.agg #[nilS, nilS, nilS, nilS], .int .i64 14]) (by simp [results, Tryd.results16, go_sem, r0, r1, r2, r3]) rfl ?_
            exact ⟨_, _, _, _, rfl, own_nil _ _, own_nil _ _, own_nil _ _, own_nil _ _, hgQ⟩
    · clear z0 z1 z2 z3
      obtain ⟨y0, v0, rfl⟩ := HO0.out.shape
      obtain ⟨y1, v1, rfl⟩ := HO1.out.shape
      obtain ⟨y2, v2, rfl⟩ := HO2.out.shape
      obtain ⟨y3, v3, rfl⟩ := HO3.out.shape
      obtain ⟨⟨f0, f1, f2, f3⟩, g0, g1, g2, g3, _⟩ := quad_room (grown_refl wr none) HRBB.out
      by_cases hx0 : x.length = 0
      · obtain ⟨rE, rR⟩ := HSO.out _ _ HRD.out.symm hx0
        have i0 : ¬ (x.length : Int) > 0 := by omega
        obtain ⟨⟨j0, j1, j2, j3⟩, _⟩ := quad_room (grown_refl wr none) HLB.out
        have hQ := four_set HRBB.out (.slice y0 p0.length v0) (.slice y1 p1.length v1) (.slice y2 p2.length v2) (.slice y3 p3.length v3)
        obtain ⟨⟨r0, r1, r2, r3⟩, _⟩ := quad_room (grown_refl _ none) hQ
        have hgQ := four_grown hg hRB2 (.slice y0 p0.length v0) (.slice y1 p1.length v1) (.slice y2 p2.length v2) (.slice y3 p3.length v3)
        have Q0 : Hid (Own w.heap.size (set4 wr RB (.slice y0 p0.length v0) (.slice y1 p1.length v1) (.slice y2 p2.length v2) (.slice y3 p3.length v3)) (.slice y0 p0.length v0) p0) := own_mono (HO0.out.later4 hbR _ _ _ _) hbw
        have Q1 : Hid (Own w.heap.size (set4 wr RB (.slice y0 p0.length v0) (.slice y1 p1.length v1) (.slice y2 p2.length v2) (.slice y3 p3.length v3)) (.slice y1 p1.length v1) p1) := own_mono (HO1.out.later4 hbR _ _ _ _) hbw
        have Q2 : Hid (Own w.heap.size (set4 wr RB (.slice y0 p0.length v0) (.slice y1 p1.length v1) (.slice y2 p2.length v2) (.slice y3 p3.length v3)) (.slice y2 p2.length v2) p2) := own_mono (HO2.out.later4 hbR _ _ _ _) hbw
        have Q3 : Hid (Own w.heap.size (set4 wr RB (.slice y0 p0.length v0) (.slice y1 p1.length v1) (.slice y2 p2.length v2) (.slice y3 p3.length v3)) (.slice y3 p3.length v3) p3) := own_mono (HO3.out.later4 hbR _ _ _ _) hbw
        subst rE rR
        clear hQ HNO HMO HSO HRD HO0 HO1 HO2 HO3 hx0
        go_wp2
        refine bodyPost_ret (v := .tuple #[.agg #[.slice y0 p0.length v0, .slice y1 p1.length v1, .slice y2 p2.length v2, .slice y3 p3.length v3], .int .i64 0]) (by simp [results, Tryd.results16, go_sem, r0, r1, r2, r3]) rfl ?_
        exact ⟨_, _, _, _, rfl, Q0.out, Q1.out, Q2.out, Q3.out, hgQ⟩
      · obtain ⟨rE, rR⟩ := HMO.out _ _ HRD.out.symm (by omega)
        have i0 : (x.length : Int) > 0 := by omega
        have hQ := four_set HRBB.out nilS nilS nilS nilS
        obtain ⟨⟨r0, r1, r2, r3⟩, _⟩ := quad_room (grown_refl _ none) hQ
        have hgQ := four_grown hg hRB2 nilS nilS nilS nilS
        subst rE rR
        clear hQ HNO HMO HSO HRD HO0 HO1 HO2 HO3
        go_wp2
        refine bodyPost_ret (v := .tuple #[.agg #[nilS, nilS, nilS, nilS], .int .i64 4]) (by simp [results, Tryd.results16, go_sem, r0, r1, r2, r3]) rfl ?_
        exact ⟨_, _, _, _, rfl, own_nil _ _, own_nil _ _, own_nil _ _, own_nil _ _, hgQ⟩
end Go.Proofs.YtghjikifflpeiabDoor
