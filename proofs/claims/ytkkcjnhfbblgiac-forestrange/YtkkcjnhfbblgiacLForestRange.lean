/-
  The walk of canopykeep.ForestRange, over what the code must keep.
-/
import Derived.Test.YtkkcjnhfbblgiacLFK
import Derived.Test.YtkkcjnhfbblgiacPart3
import Derived.Test.YtkkcjnhfbblgiacKeyO
import Derived.Test.YtkkcjnhfbblgiacKSame
import Derived.Test.YtkkcjnhfbblgiacPart2
import Derived.Test.YtkkcjnhfbblgiacPart1
import Derived.Deep.RegionWith
import Derived.BigQuiet
namespace Go.Proofs.Ytkkcjnhfbblgiac
open Go.RowKit
theorem klt_leR (a b : List UInt8) : (klt a b || a == b) = !klt b a := by
  cases h : klt a b with
  | true => rw [klt_asymm _ _ h]; rfl
  | false =>
    by_cases e : a = b
    · subst e; rw [klt_irrefl]; simp
    · rw [klt_total _ _ h e]; simp [e]
theorem two_setR {w : World} {b : Nat} {x y : Value} {t : TypeId} (h : w.heap[b]? = some (.cells #[x, y] t)) (u v : Value) : ((w.setCell ⟨b, 0, none⟩ u).setCell ⟨b, 1, none⟩ v).heap[b]? = some (.cells #[u, v] t) := by
  have h0 : (w.setCell ⟨b, 0, none⟩ u).heap[b]? = some (.cells #[u, y] t) := by
    simp only [World.setCell, Array.getElem?_modify, if_true, h, Option.map_some]; first | rfl | simp
  rw [World.setCell, Array.getElem?_modify, if_pos rfl, h0]; first | rfl | simp
set_option maxRecDepth 100000 in
set_option maxHeartbeats 4000000 in
theorem forestRange_walk (hA : FApplyOK) (hG : FGetOK) (hR : FRangeOK) (w : World) (v p t : Value) (l : List Plc) (P : Plc) (tb : List UInt8) (hv : PlacesIs w v l) (hp : PlaceIs w p P) (ht : SliceIs w t tb) (hl : FitsQ l) (hP : PlcFits P) (htl : tb.length ≤ maxLen) :
    Calls Try.prog 3 #[v, p, t] w fun e w' => e = .returned (.bool true) ∧ w.grownBy w' none := by
  obtain ⟨hF, hS⟩ := mkP_ok l 30
  have HFO : Hid (∀ w', w.grownBy w' none → Calls Try.prog 6 #[v, .int .i64 30] w' fun e w'' => ∃ v', e = .returned v' ∧ TensIs w'' v' (mkP l 30) ∧ w'.grownBy w'' none) := fun w' hg => kforest_any hA w' v l 30 (hv.grown hg) hl (by omega)
  have HWP : Hid (∀ w', w.grownBy w' none → Calls Try.prog 7 #[p] w' fun e w'' => ∃ na nc ka kc va vc, e = .returned (.agg #[.slice na (writeF P).name.length nc, .slice ka (writeF P).key.length kc, .bool (writeF P).gone, .slice va (writeF P).value.length vc]) ∧ SliceIs w'' (.slice na (writeF P).name.length nc) (writeF P).name ∧ SliceIs w'' (.slice ka (writeF P).key.length kc) (writeF P).key ∧ SliceIs w'' (.slice va (writeF P).value.length vc) (writeF P).value ∧ w'.grownBy w'' none) := fun w' hg => write_of w' p P (hp.grown hg) hP
  have KY : Hid (∀ w', w.grownBy w' none → Calls Try.prog 8 #[t] w' fun e w'' => ∃ v', e = .returned v' ∧ Own w'.heap.size w'' v' (keyF tb) ∧ w'.grownBy w'' none) := fun w' hg => keyO_any w' t tb (ht.grown hg) htl
  have hK := keyF_len tb
  generalize keyF tb = K at *
  have hq := writeF_ok P
  generalize writeF P = Q at *
  obtain ⟨hqn, hqk, _⟩ := (writeE_iff Q).1 hq
  generalize mkP l 30 = f at *
  obtain ⟨ta, tc, rfl⟩ := ht.shape
  have hTr : Tree (ofF f Q.name) := of_tree hF Q.name
  have RG : Hid (∀ w' v' r' u' t', TensIs w' v' f → SliceIs w' r' Q.name → SliceIs w' u' Q.key → SliceIs w' t' K → Calls Try.prog 9 #[v', r', u', t'] w' fun e w'' => ∃ x, e = .returned (.tuple #[x, .int .i64 0]) ∧ PairsIs w'' x (rangeL (ofF f Q.name) Q.key K) ∧ w'.grownBy w'' none) := fun w' v' r' u' t' h1 h2 h3 h4 => by
    have := hR w' v' r' u' t' f _ _ _ h1 h2 h3 h4 hF.fits (by omega) (by omega) (by omega)
    obtain ⟨e1, e2⟩ := frange_ok hF Q.name Q.key K hqn hqk hK
    rw [e1, e2] at this
    exact this
  have RN : Hid (∀ w' v' t', TensIs w' v' f → SliceIs w' t' K → Calls Try.prog 9 #[v', .slice none 0 0, t', t'] w' fun e w'' => ∃ x, e = .returned (.tuple #[x, .int .i64 1]) ∧ PairsIs w'' x [] ∧ w'.grownBy w'' none) := fun w' v' t' h1 h2 => by
    have := hR w' v' (.slice none 0 0) t' t' f [] _ _ h1 (sliceIs_nil _) h2 h2 hF.fits (by simp) (by omega) (by omega)
    obtain ⟨e1, e2⟩ := frange_none hF K K
    rw [e1, e2] at this
    exact this
  have GP : Hid (∀ i, i < (rangeL (ofF f Q.name) Q.key K).length → ∀ w' v' r' u', TensIs w' v' f → SliceIs w' r' Q.name → SliceIs w' u' ((rangeL (ofF f Q.name) Q.key K).getD i ([], [])).1 → Calls Try.prog 10 #[v', r', u'] w' fun e w'' => ∃ xa xc, e = .returned (.tuple #[.agg #[.bool true, .slice xa ((rangeL (ofF f Q.name) Q.key K).getD i ([], [])).2.length xc], .int .i64 0]) ∧ SliceIs w'' (.slice xa ((rangeL (ofF f Q.name) Q.key K).getD i ([], [])).2.length xc) ((rangeL (ofF f Q.name) Q.key K).getD i ([], [])).2 ∧ w'.grownBy w'' none) := fun i hi w' v' r' u' h1 h2 h3 => by
    obtain ⟨g1, _, _, g4⟩ := range_got hTr Q.key K i hi
    have := FGetOK.of hG w' v' r' u' f _ _ h1 h2 h3 hF hqn g4
    rw [g1] at this
    exact this
  have GB1 : Hid (∀ i, i < (rangeL (ofF f Q.name) Q.key K).length → klt ((rangeL (ofF f Q.name) Q.key K).getD i ([], [])).1 Q.key = false ∧ klt K ((rangeL (ofF f Q.name) Q.key K).getD i ([], [])).1 = false) := fun i hi => by
    obtain ⟨_, g2, g3, _⟩ := range_got hTr Q.key K i hi
    exact ⟨g2, g3⟩
  have GT : Hid (∀ w' v' r' u', TensIs w' v' f → SliceIs w' r' Q.name → SliceIs w' u' Q.key → Calls Try.prog 10 #[v', r', u'] w' fun e w'' => ∃ xa xc, e = .returned (.tuple #[.agg #[.bool (getF (ofF f Q.name) Q.key).isSome, .slice xa ((getF (ofF f Q.name) Q.key).getD []).length xc], .int .i64 0]) ∧ SliceIs w'' (.slice xa ((getF (ofF f Q.name) Q.key).getD []).length xc) ((getF (ofF f Q.name) Q.key).getD []) ∧ w'.grownBy w'' none) := fun w' v' r' u' h1 h2 h3 => FGetOK.of hG w' v' r' u' _ _ _ h1 h2 h3 hF hqn hqk
  have FST : Hid ((getF (ofF f Q.name) Q.key).isSome = true → klt K Q.key = false → 0 < (rangeL (ofF f Q.name) Q.key K).length ∧ ((rangeL (ofF f Q.name) Q.key K).getD 0 ([], [])).1 = Q.key) := fun h1 h2 => range_first hTr.rises Q.key K h1 h2
  have hroomR : (rangeL (ofF f Q.name) Q.key K).length ≤ 60 := by
    have := range_len (ofF f Q.name) Q.key K
    have := hTr.room
    omega
  generalize (getF (ofF f Q.name) Q.key).getD [] = GV at *
  generalize (getF (ofF f Q.name) Q.key).isSome = GB at *
  generalize rangeL (ofF f Q.name) Q.key K = RR at *
  clear ht htl
  obtain ⟨pa1, pa2, pa3, pa4, pa5, pa6, rfl⟩ := hp.cells
  obtain ⟨la, lc, rfl⟩ := hv.shape
  obtain ⟨W0, hW0⟩ : ∃ W0 : World, W0 = w.alloc (.cells #[.slice pa1 P.name.length pa2, .slice pa3 P.key.length pa4, .slice pa5 P.value.length pa6, .bool P.gone] 25) := ⟨_, rfl⟩
  have HW0 : Hid (W0 = w.alloc (.cells #[.slice pa1 P.name.length pa2, .slice pa3 P.key.length pa4, .slice pa5 P.value.length pa6, .bool P.gone] 25)) := hW0
  have hgW : w.grownBy W0 none := by rw [hW0]; exact World.grownBy_alloc _ _ _
  have BP : Hid (W0.heap[w.heap.size]? = some (.cells #[.slice pa1 P.name.length pa2, .slice pa3 P.key.length pa4, .slice pa5 P.value.length pa6, .bool P.gone] 25)) := by
    show _ = _
    rw [hW0]; exact heap_alloc_new w _
  clear hp hv hW0 hP hl
  generalize P.name.length = pn at *
  generalize P.key.length = pk at *
  generalize P.value.length = pv at *
  generalize P.gone = pg at *
  clear hq hqn hqk hF hS hA hG hR hTr hK
  go_enter Try.func3, Try.ntmps3
  go_wp2_with fail
  rw [← HW0.out]
  go_wp2_with fail
  refine (HFO.out _ hgW).mono ?_
  rintro e w1 ⟨v1, rfl, h1, hg1⟩
  obtain ⟨fa, fc, rfl⟩ := h1.shape
  have HT1 : Hid (TensIs w1 (.slice fa f.length fc) f) := h1
  have hg01 := grown_trans hgW hg1
  obtain ⟨⟨p0, p1, p2, p3⟩, _⟩ := quad_room hg1 BP.out
  clear h1
  go_wp2_with fail
  refine (HWP.out _ hg01).mono ?_
  rintro e w2 ⟨qa1, qa2, qa3, qa4, qa5, qa6, rfl, hq1, hq2, hq3, hg2⟩
  obtain ⟨W2, HW2, hgA2, B2⟩ := alloc_named w2 (.cells #[.slice qa1 Q.name.length qa2, .slice qa3 Q.key.length qa4, .bool Q.gone, .slice qa5 Q.value.length qa6] 29)
  have HQ1 : Hid (SliceIs W2 (.slice qa1 Q.name.length qa2) Q.name) := hq1.grown hgA2
  have HQ2 : Hid (SliceIs W2 (.slice qa3 Q.key.length qa4) Q.key) := hq2.grown hgA2
  have HQ3 : Hid (SliceIs W2 (.slice qa5 Q.value.length qa6) Q.value) := hq3.grown hgA2
  have hg12 := grown_trans hg2 hgA2
  have hg02 := grown_trans hg01 hg12
  clear hq1 hq2 hq3 p0 p1 p2 p3
  go_upto_region 3 with fail
  rw [← HW2.out]
  go_wp2_with fail
  refine (KY.out _ hg02).mono ?_
  rintro e w3 ⟨v3, rfl, ho3, hg3⟩
  obtain ⟨ba, bc, rfl⟩ := ho3.shape
  have HB3 : Hid (SliceIs w3 (.slice ba K.length bc) K) := ho3.slice
  have hg03 := grown_trans hg02 hg3
  obtain ⟨⟨a0, a1, a2, a3⟩, _⟩ := quad_room hg3 B2.out
  clear ho3
  go_wp2_with fail
  refine (RG.out _ _ _ _ _ (HT1.out.grown (grown_trans hg12 hg3)) (HQ1.out.grown hg3) (HQ2.out.grown hg3) HB3.out).mono ?_
  rintro e w4 ⟨x4, rfl, h4, hg4⟩
  obtain ⟨ga, gc, rfl⟩ := h4.shape
  have HR4 : Hid (PairsIs w4 (.slice ga RR.length gc) RR) := h4
  have hg04 := grown_trans hg03 hg4
  have hg24 := grown_trans hg3 hg4
  have hg14 := grown_trans hg12 hg24
  clear h4 a0 a1 a2 a3
  go_wp2_with fail
  go_loopw [12] (fun i wr => ∃ m : Nat, m ≤ RR.length ∧ i = .int .i64 (m : Int) ∧ w4.grownBy wr none) (fun i _ => RR.length - (intOf i).toNat)
  case atStart => exact ⟨0, by omega, rfl, grown_refl _ _⟩
  case round =>
    obtain ⟨m, hm, rfl, hg⟩ := hrel
    obtain ⟨⟨a0, a1, a2, a3⟩, _⟩ := quad_room (grown_trans hg24 hg) B2.out
    have hg0r := grown_trans hg04 hg
    by_cases hlt : m < RR.length
    · have i1 : (m : Int) < (RR.length : Int) := by omega
      obtain ⟨b, o, rfl, hat⟩ := HR4.out.at m hlt
      obtain ⟨vk, vv, c1, c2, s1, s2⟩ := hat.grown hg
      have hgp := GP.out m hlt
      obtain ⟨k1, k2⟩ := GB1.out m hlt
      generalize RR.getD m ([], []) = E at *
      obtain ⟨ka, kc, rfl⟩ := s1.shape
      obtain ⟨va, vc, rfl⟩ := s2.shape
      have GE : Hid (∀ w', wr.grownBy w' none → Calls Try.prog 10 #[.slice fa f.length fc, .slice qa1 Q.name.length qa2, .slice ka E.1.length kc] w' fun e w'' => ∃ xa xc, e = .returned (.tuple #[.agg #[.bool true, .slice xa E.2.length xc], .int .i64 0]) ∧ SliceIs w'' (.slice xa E.2.length xc) E.2 ∧ w'.grownBy w'' none) := fun w' hg' => hgp w' _ _ _ (HT1.out.grown (grown_trans hg14 (grown_trans hg hg'))) (HQ1.out.grown (grown_trans hg24 (grown_trans hg hg'))) (s1.grown hg')
      have S1 : Hid (SliceIs wr (.slice ka E.1.length kc) E.1) := s1
      have S2 : Hid (SliceIs wr (.slice va E.2.length vc) E.2) := s2
      have HK1 : Hid (klt E.1 Q.key = false) := k1
      have HK2 : Hid (klt K E.1 = false) := k2
      clear hgp k1 k2 hat s1 s2
      go_upto_region 8 with fail
      go_cut [13, 14] (fun s13 s14 wx => ∃ (nb : Nat) (xa : Option Addr) (xc : Nat), s13 = .pointer (some ⟨nb, 0, none⟩) ∧ s14 = .int .i64 0 ∧ wx.heap[nb]? = some (.cells #[.bool true, .slice xa E.2.length xc] 37) ∧ SliceIs wx (.slice xa E.2.length xc) E.2 ∧ wr.grownBy wx none)
      case first =>
        have hgd := grown_drew (grown_refl wr none)
        have hga0 : wr.grownBy (wr.alloc (.cells #[.bool false, .slice none 0 0] 37)) none := World.grownBy_alloc _ _ _
        have hga : wr.grownBy (wr.alloc (.cells #[.bool false, .slice none 0 0] 37)).drew none := grown_drew hga0
        have d0 := hga0.cell a0 (by simp)
        have d1 := hga0.cell c1 (by simp)
        generalize E.2.length = el at *
        go_region_with (go_at_call 10; refine (GE.out _ ?_).mono ?_; first | exact hgd | exact hga
                        rintro e w5 ⟨xa, xc, rfl, h5, hg5⟩
                        have hg5' : wr.grownBy w5 none := by first | exact grown_trans hgd hg5 | exact grown_trans hga hg5
                        first
                          | (refine pair_room_elim (b := wr.heap.size) hg5 (heap_alloc_new wr (.cells #[.bool false, .slice none 0 0] 37)) ?_; intro hpb0 cA cB fA fB; have HPB : Hid (w5.heap[wr.heap.size]? = some (.cells #[.bool false, .slice none 0 0] 37)) := hpb0; clear hpb0)
                          | skip)
        all_goals (go_wp2_with fail; go_meet; case rel =>
          first
            | exact ⟨w5.heap.size, xa, xc, rfl, rfl, heap_alloc_new w5 _, h5.alloc _, grown_alloc hg5' _⟩
            | exact ⟨wr.heap.size, xa, xc, rfl, rfl, two_setR HPB.out _ _, h5.findS HPB.out _ _, grown_setNew (grown_setNew hg5' _ (Nat.le_refl _) _ _) _ (Nat.le_refl _) _ _⟩)
      case rest =>
        obtain ⟨nb, xa, xc, rfl, rfl, hnb, hx, hgx⟩ := hcut
        obtain ⟨x0, x1, _, _⟩ := pair_room (grown_refl wc none) hnb
        have y1 := hgx.cell c1 (by simp)
        have y2 := hgx.cell c2 (by simp)
        have z1 := hgx.cell a1 (by simp)
        have SM : Hid (∀ n, Calls Try.prog 11 #[.slice xa E.2.length xc, .slice va E.2.length vc] (wc.drewN n) fun e w' => e = .returned (.bool true) ∧ w' = wc.drewN n) := fun n => by
          have := same_any (wc.drewN n) _ _ E.2 E.2 (hx.drewN n) ((S2.out.grown hgx).drewN n)
          rw [decide_eq_true rfl] at this
          exact this
        have cv1 : ∀ n, (convert 23 9 (.slice ka E.1.length kc)).run Try.prog (wc.drewN n) = .ok (.string (textOf E.1)) (wc.drewN n) := fun n => conv_bytes _ _ _ ((S1.out.grown hgx).drewN n)
        have hgq := grown_trans (grown_trans hg24 hg) hgx
        have hgb := grown_trans (grown_trans hg4 hg) hgx
        have cv2 : ∀ n, (convert 23 9 (.slice qa3 Q.key.length qa4)).run Try.prog (wc.drewN n) = .ok (.string (textOf Q.key)) (wc.drewN n) := fun n => conv_bytes _ _ _ ((HQ2.out.grown hgq).drewN n)
        have cv3 : ∀ n, (convert 23 9 (.slice ba K.length bc)).run Try.prog (wc.drewN n) = .ok (.string (textOf K)) (wc.drewN n) := fun n => conv_bytes _ _ _ ((HB3.out.grown hgb).drewN n)
        have l1 : Op.bytesLess (textOf E.1).toList (textOf Q.key).toList = false := by rw [textOf_list, textOf_list]; exact HK1.out
        have hle : (klt E.1 K || E.1 == K) = true := by
          have := klt_leR E.1 K
          rw [HK2.out] at this
          exact this
        have HLE : Hid (klt E.1 K = true ∨ (E.1 == K) = true) := by
          show _ ∨ _
          rw [Bool.or_eq_true] at hle
          exact hle
        have hgF := grown_trans hg hgx
        clear hnb hx a0 a1 a2 a3 c1 c2 hgq hgb hle
        rcases HLE.out with hle | hle
        · have l2 : Op.bytesLess (textOf E.1).toList (textOf K).toList = true := by rw [textOf_list, textOf_list]; exact hle
          clear hle
          go_upto_region 9 with fail
          go_quiet (first | (go_at_call 11; exact Calls.quiet_of_same (SM.out _)))
          have hgd : w4.grownBy (wc.drewN nq) none := grown_drewN hgF nq
          clear cv1 cv2 cv3 SM
          generalize wc.drewN nq = Wd at *
          go_wp2_with fail
          go_roundw
          case rel => exact ⟨m + 1, by omega, by go_num, hgd⟩
          case measure => simp [intOf]; omega
        · have l2 : ((textOf E.1).toList == (textOf K).toList) = true := by rw [textOf_list, textOf_list]; exact hle
          clear hle
          go_upto_region 9 with fail
          go_quiet (first | (go_at_call 11; exact Calls.quiet_of_same (SM.out _)))
          have hgd : w4.grownBy (wc.drewN nq) none := grown_drewN hgF nq
          clear cv1 cv2 cv3 SM
          generalize wc.drewN nq = Wd at *
          go_wp2_with fail
          go_roundw
          case rel => exact ⟨m + 1, by omega, by go_num, hgd⟩
          case measure => simp [intOf]; omega
    · obtain rfl : m = RR.length := by omega
      clear GP GB1 hlt
      go_wp2_with fail
      refine (GT.out _ _ _ _ (HT1.out.grown (grown_trans hg14 hg)) (HQ1.out.grown (grown_trans hg24 hg)) (HQ2.out.grown (grown_trans hg24 hg))).mono ?_
      rintro e w6 ⟨xa, xc, rfl, h6, hg6⟩
      obtain ⟨W6, HW6, hgA6, B6⟩ := alloc_named w6 (.cells #[.bool GB, .slice xa GV.length xc] 37)
      have hgr6 := grown_trans hg6 hgA6
      have hg46 := grown_trans hg hgr6
      clear h6 a0 a1 a2 a3
      go_upto_region 12 with fail
      rw [← HW6.out]
      go_wp2_with fail
      refine (RN.out _ _ _ (HT1.out.grown (grown_trans hg14 hg46)) (HB3.out.grown (grown_trans hg4 hg46))).mono ?_
      rintro e w7 ⟨x7, rfl, _, hg7⟩
      have hg47 := grown_trans hg46 hg7
      have hg07 := grown_trans hg04 hg47
      obtain ⟨x0, x1, _, _⟩ := pair_room hg7 B6.out
      obtain ⟨⟨a0, a1, a2, a3⟩, _⟩ := quad_room (grown_trans hg24 hg47) B2.out
      have cv2 : ∀ n, (convert 23 9 (.slice qa3 Q.key.length qa4)).run Try.prog (w7.drewN n) = .ok (.string (textOf Q.key)) (w7.drewN n) := fun n => conv_bytes _ _ _ ((HQ2.out.grown (grown_trans hg24 hg47)).drewN n)
      have cv3 : ∀ n, (convert 23 9 (.slice ba K.length bc)).run Try.prog (w7.drewN n) = .ok (.string (textOf K)) (w7.drewN n) := fun n => conv_bytes _ _ _ ((HB3.out.grown (grown_trans hg4 hg47)).drewN n)
      clear hg0r
      go_upto_region 13 with fail
      cases GB with
      | false =>
        clear FST
        go_quiet (fail)
        go_wp2
        go_ret
        exact ⟨rfl, grown_drewN hg07 _⟩
      | true =>
        cases hkl : klt K Q.key with
        | true =>
          have l1 : Op.bytesLess (textOf K).toList (textOf Q.key).toList = true := by rw [textOf_list, textOf_list]; exact hkl
          clear FST
          go_quiet (fail)
          go_wp2
          go_ret
          exact ⟨rfl, grown_drewN hg07 _⟩
        | false =>
          have l1 : Op.bytesLess (textOf K).toList (textOf Q.key).toList = false := by rw [textOf_list, textOf_list]; exact hkl
          obtain ⟨f1, f2⟩ := FST.out rfl hkl
          obtain ⟨b, o, rfl, hat⟩ := (HR4.out.grown hg47).at 0 f1
          obtain ⟨vk, vv, c1, c2, s1, s2⟩ := hat
          rw [f2] at s1
          obtain ⟨ka, kc, rfl⟩ := s1.shape
          have SM : Hid (∀ n, Calls Try.prog 11 #[.slice ka Q.key.length kc, .slice qa3 Q.key.length qa4] (w7.drewN n) fun e w' => e = .returned (.bool true) ∧ w' = w7.drewN n) := fun n => by
            have := same_any (w7.drewN n) _ _ Q.key Q.key (s1.drewN n) ((HQ2.out.grown (grown_trans hg24 hg47)).drewN n)
            rw [decide_eq_true rfl] at this
            exact this
          have i0 : (0 : Int) < (RR.length : Int) := by omega
          rw [show o + 0 * 2 = o by omega] at c1
          clear FST f2 s1 s2 c2 hkl
          go_quiet (first | (go_at_call 11; exact Calls.quiet_of_same (SM.out _)))
          go_wp2
          go_ret
          exact ⟨rfl, grown_drewN hg07 _⟩
end Go.Proofs.Ytkkcjnhfbblgiac
