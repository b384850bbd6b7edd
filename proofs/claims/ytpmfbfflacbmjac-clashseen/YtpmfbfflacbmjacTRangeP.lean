/-
  tree.Range, as it landed, keeps P3.5.
-/
import Derived.Test.YtpmfbfflacbmjacTSearchP
import Derived.Test.YtpmfbfflacbmjacPart8
import Derived.Test.YtpmfbfflacbmjacPart4
namespace Go.Proofs.Ytpmfbfflacbmjac
open Go.RowKit
theorem two_set0 {W : World} {b : Nat} {x y : Value} {t : TypeId} (h : W.heap[b]? = some (.cells #[x, y] t)) (u : Value) : (W.setCell ⟨b, 0, none⟩ u).heap[b]? = some (.cells #[u, y] t) := by
  simp only [World.setCell, Array.getElem?_modify, if_true, h, Option.map_some]
  first | rfl | simp
theorem two_set1 {W : World} {b : Nat} {x y : Value} {t : TypeId} (h : W.heap[b]? = some (.cells #[x, y] t)) (u : Value) : (W.setCell ⟨b, 1, none⟩ u).heap[b]? = some (.cells #[x, u] t) := by
  simp only [World.setCell, Array.getElem?_modify, if_true, h, Option.map_some]
  first | rfl | simp
theorem two_other {W : World} {b c i : Nat} {u : Value} {o : Obj} (h : W.heap[b]? = some o) (hn : b ≠ c) : (W.setCell ⟨c, i, none⟩ u).heap[b]? = some o := by
  rw [Below.heap_setCell _ _ _ _ (by simpa using hn)]; exact h
theorem index_two0 (W : World) (x y : Value) : (Instr.index 108 (.agg #[x, y]) (.int .i64 0)).run Try.prog W = .ok x W := by
  first | kernel_rfl | rfl
theorem index_two1 (W : World) (x y : Value) : (Instr.index 108 (.agg #[x, y]) (.int .i64 1)).run Try.prog W = .ok y W := by
  first | kernel_rfl | rfl
set_option maxRecDepth 100000 in
set_option maxHeartbeats 1000000 in
theorem trange_ok : TRangeOK := by
  intro w v u x l f t hv hu hx hl hf ht
  have CL : Hid (Calls Try.prog 58 #[v] w fun e w' => e = .returned (.int .i64 (pairsFaultF l)) ∧ w.grownBy w' none) := tcheck_ok w v l hv hl
  obtain ⟨a, cap, rfl⟩ := hv.shape
  obtain ⟨fa, fc, rfl⟩ := hu.shape
  obtain ⟨ta, tc, rfl⟩ := hx.shape
  by_cases hz : pairsFaultF l = 0
  · have hT := (tree_iff l).1 hz
    have CK : Hid CheckOK := check_ok
    rw [hz] at CL
    have HZ : Hid (pairsFaultF l = 0) := hz
    clear hz
    go_enter Try.func30, Try.ntmps30
    go_wp2_with fail
    refine CL.out.mono ?_
    rintro e w1 ⟨rfl, hg1⟩
    go_wp2_with fail
    have hroom := hT.room
    have PLF : Hid (∀ w', w1.grownBy w' none → Calls Try.prog 60 #[.slice a l.length cap, .slice fa f.length fc] w' fun e w'' => e = .returned (.tuple #[.int .i64 (posF l f : Int), .int .i64 (nextF l f : Int)]) ∧ w'.grownBy w'' none) := fun w' hg => place_any w' _ _ l f (hv.grown (grown_trans hg1 hg)) (hu.grown (grown_trans hg1 hg)) hT.rises hroom
    have PLT : Hid (∀ w', w1.grownBy w' none → Calls Try.prog 60 #[.slice a l.length cap, .slice ta t.length tc] w' fun e w'' => e = .returned (.tuple #[.int .i64 (posF l t : Int), .int .i64 (nextF l t : Int)]) ∧ w'.grownBy w'' none) := fun w' hg => place_any w' _ _ l t (hv.grown (grown_trans hg1 hg)) (hx.grown (grown_trans hg1 hg)) hT.rises hroom
    have hpf := pos_le l f
    have hnt := next_le l t
    have HRG : Hid (rangeL l f t = (l.take (max (posF l f) (nextF l t))).drop (posF l f)) := range_next l f t hT.rises
    generalize posF l f = nf at *
    generalize nextF l f = mf at *
    generalize nextF l t = mt at *
    generalize posF l t = nt at *
    have B1 : ((w1.alloc (.cells #[.int .i64 0, .int .i64 0] 107)).alloc (.cells #[.int .i64 0, .int .i64 0] 107)).heap[w1.heap.size + 1]? = some (.cells #[.int .i64 0, .int .i64 0] 107) := by
      have := heap_alloc_new (w1.alloc (.cells #[.int .i64 0, .int .i64 0] 107)) (.cells #[.int .i64 0, .int .i64 0] 107)
      rw [World.size_alloc] at this
      exact this
    have B0 : ((w1.alloc (.cells #[.int .i64 0, .int .i64 0] 107)).alloc (.cells #[.int .i64 0, .int .i64 0] 107)).heap[w1.heap.size]? = some (.cells #[.int .i64 0, .int .i64 0] 107) := by
      have := (World.grownBy_alloc (w1.alloc (.cells #[.int .i64 0, .int .i64 0] 107)) (.cells #[.int .i64 0, .int .i64 0] 107) none).block w1.heap.size (by simp) (by simp)
      rw [heap_alloc_new] at this
      exact this
    have hga : w1.grownBy ((w1.alloc (.cells #[.int .i64 0, .int .i64 0] 107)).alloc (.cells #[.int .i64 0, .int .i64 0] 107)) none := grown_alloc (World.grownBy_alloc _ _ _) _
    go_loopw [22] (fun si wr => ∃ (m : Nat) (x0 x1 y0 y1 : Int), m ≤ 2 ∧ si = .int .i64 (m : Int) ∧ wr.heap[w1.heap.size]? = some (.cells #[.int .i64 x0, .int .i64 x1] 107) ∧ wr.heap[w1.heap.size + 1]? = some (.cells #[.int .i64 y0, .int .i64 y1] 107) ∧ w1.grownBy wr none ∧ (1 ≤ m → keyFaultF f.length = 0 ∧ x0 = (nf : Int)) ∧ (2 ≤ m → keyFaultF t.length = 0 ∧ y1 = (mt : Int))) (fun si _ => 2 - (intOf si).toNat)
    case atStart => exact ⟨0, 0, 0, 0, 0, by omega, rfl, B0, B1, hga, fun h => by omega, fun h => by omega⟩
    case round =>
      clear B0 B1 hga
      obtain ⟨m, x0, x1, y0, y1, hm, rfl, hb0, hb1, hgr, h1, h2⟩ := hrel
      have HB0 : Hid (wr.heap[w1.heap.size]? = some (.cells #[.int .i64 x0, .int .i64 x1] 107)) := hb0
      have HB1 : Hid (wr.heap[w1.heap.size + 1]? = some (.cells #[.int .i64 y0, .int .i64 y1] 107)) := hb1
      have HF : Hid (1 ≤ m → keyFaultF f.length = 0 ∧ x0 = (nf : Int)) := h1
      have HT2 : Hid (2 ≤ m → keyFaultF t.length = 0 ∧ y1 = (mt : Int)) := h2
      clear hb0 hb1 h1 h2
      have ix0 := fun W => index_two0 W (.slice fa f.length fc) (.slice ta t.length tc)
      have ix1 := fun W => index_two1 W (.slice fa f.length fc) (.slice ta t.length tc)
      by_cases m0 : m = 0
      · subst m0
        go_wp2_with fail
        refine (CK.out _ _ _ _).mono ?_
        rintro e w2 ⟨rfl, hg2⟩
        by_cases hk : keyFaultF f.length = 0
        · have HK : Hid (keyFaultF f.length = 0) := hk
          rw [hk]
          clear hk
          go_wp2_with fail
          refine (PLF.out _ (grown_trans hgr hg2)).mono ?_
          rintro e w3 ⟨rfl, hg3⟩
          have hg23 := grown_trans hg2 hg3
          obtain ⟨cA, cB, fA, fB⟩ := pair_room hg23 HB0.out
          obtain ⟨cC, cD, fC, fD⟩ := pair_room hg23 HB1.out
          go_wp2_with fail
          go_roundw
          case rel =>
            refine ⟨1, (nf : Int), x1, (mf : Int), y1, by omega, rfl, two_other (two_set0 (pair_old hg23 HB0.out) _) (by omega), two_set0 (two_other (pair_old hg23 HB1.out) (by omega)) _, grown_setNew (grown_setNew (grown_trans hgr hg23) _ (by omega) _ _) _ (by omega) _ _, fun _ => ⟨HK.out, rfl⟩, fun h => by omega⟩
          case measure => simp [intOf]
        · have HE : Hid (rangeE l f t = keyFaultF f.length ∧ rangeF l f t = []) := by
            have e1 : getE l f = keyFaultF f.length := by rw [getE, if_pos HZ.out]
            have e2 : rangeE l f t = keyFaultF f.length := by rw [rangeE, if_neg (by rw [e1]; exact hk), e1]
            exact ⟨e2, by rw [rangeF, if_neg (by rw [e2]; exact hk)]⟩
          generalize keyFaultF f.length = z at *
          have hz' : (z != 0) = true := by simpa using hk
          clear HF HT2
          go_wp2
          go_ret2
          exact ⟨_, by rw [HE.out.1]; rfl, by rw [HE.out.2]; exact pairsIs_nil _, grown_trans hg1 (grown_trans hgr hg2)⟩
      · by_cases m1 : m = 1
        · subst m1
          obtain ⟨hk1, rfl⟩ := HF.out (by omega)
          have HK1 : Hid (keyFaultF f.length = 0) := hk1
          clear HF HT2 hk1
          go_wp2_with fail
          refine (CK.out _ _ _ _).mono ?_
          rintro e w2 ⟨rfl, hg2⟩
          by_cases hk : keyFaultF t.length = 0
          · have HK : Hid (keyFaultF t.length = 0) := hk
            rw [hk]
            clear hk
            go_wp2_with fail
            refine (PLT.out _ (grown_trans hgr hg2)).mono ?_
            rintro e w3 ⟨rfl, hg3⟩
            have hg23 := grown_trans hg2 hg3
            obtain ⟨cA, cB, fA, fB⟩ := pair_room hg23 HB0.out
            obtain ⟨cC, cD, fC, fD⟩ := pair_room hg23 HB1.out
            go_wp2_with fail
            go_roundw
            case rel =>
              refine ⟨2, (nf : Int), (nt : Int), y0, (mt : Int), by omega, rfl, two_other (two_set1 (pair_old hg23 HB0.out) _) (by omega), two_set1 (two_other (pair_old hg23 HB1.out) (by omega)) _, grown_setNew (grown_setNew (grown_trans hgr hg23) _ (by omega) _ _) _ (by omega) _ _, fun _ => ⟨HK1.out, rfl⟩, fun _ => ⟨HK.out, rfl⟩⟩
            case measure => simp [intOf]
          · have HE : Hid (rangeE l f t = keyFaultF t.length ∧ rangeF l f t = []) := by
              have e1 : getE l f = 0 := by rw [getE, if_pos HZ.out, HK1.out]
              have e2 : rangeE l f t = keyFaultF t.length := by rw [rangeE, if_pos e1]
              exact ⟨e2, by rw [rangeF, if_neg (by rw [e2]; exact hk)]⟩
            generalize keyFaultF t.length = z at *
            have hz' : (z != 0) = true := by simpa using hk
            go_wp2
            go_ret2
            exact ⟨_, by rw [HE.out.1]; rfl, by rw [HE.out.2]; exact pairsIs_nil _, grown_trans hg1 (grown_trans hgr hg2)⟩
        · obtain rfl : m = 2 := by omega
          obtain ⟨hk1, rfl⟩ := HF.out (by omega)
          obtain ⟨hk2, rfl⟩ := HT2.out (by omega)
          have HE : Hid (rangeE l f t = 0 ∧ rangeF l f t = (l.take (max nf mt)).drop nf) := by
            have e1 : getE l f = 0 := by rw [getE, if_pos HZ.out, hk1]
            have e2 : rangeE l f t = 0 := by rw [rangeE, if_pos e1, hk2]
            exact ⟨e2, by rw [rangeF, if_pos e2, HRG.out]⟩
          clear HF HT2 hk1 hk2 HRG
          obtain ⟨cA, cB, fA, fB⟩ := pair_room (grown_refl wr none) HB0.out
          obtain ⟨cC, cD, fC, fD⟩ := pair_room (grown_refl wr none) HB1.out
          have hgw := grown_trans hg1 hgr
          have JO : ∀ (M : Nat) (a1 : Option Addr) (c1 : Nat), max nf mt = M → M ≤ l.length → (∀ W, PairsIs W (.slice a l.length cap) l → PairsIs W (.slice a1 (M - nf) c1) ((l.take M).drop nf)) → Hid (Calls Try.prog 61 #[.slice (some ⟨wr.heap.size, 0, none⟩) 1 1] (wr.alloc (.cells #[.slice a1 (M - nf) c1] 41)) fun e w'' => ∃ v', e = .returned v' ∧ PairsIs w'' v' (rangeF l f t) ∧ wr.grownBy w'' none) := by
            intro M a1 c1 hM hMl g1
            rw [HE.out.2, hM]
            have hg : wr.grownBy (wr.alloc (.cells #[.slice a1 (M - nf) c1] 41)) none := World.grownBy_alloc _ _ _
            have hb : (wr.alloc (.cells #[.slice a1 (M - nf) c1] 41)).heap[wr.heap.size]? = some (.cells #[.slice a1 (M - nf) c1] 41) := heap_alloc_new wr _
            generalize (wr.alloc (.cells #[.slice a1 (M - nf) c1] 41)) = w' at *
            have h1 := g1 w' (hv.grown (grown_trans hgw hg))
            have := joined_any w' (.slice (some ⟨wr.heap.size, 0, none⟩) 1 1) [(l.take M).drop nf] ⟨_, _, rfl, fun i hi => ?_⟩ (by simp; omega) (by simp) (fun q hq => ?_)
            · refine this.mono ?_
              rintro e w4 ⟨v4, rfl, h4, hg4⟩
              exact ⟨v4, rfl, by simpa using h4.list, grown_trans hg hg4⟩
            · match i, hi with
              | 0, _ => exact ⟨_, by simp [World.cell?, hb], h1⟩
            · have hq' : q ∈ l := by
                simp only [List.flatten_cons, List.flatten_nil, List.append_nil] at hq
                exact List.mem_of_mem_take (List.mem_of_mem_drop hq)
              have := hT.pairs q hq'
              omega
          have HE1 : Hid (rangeE l f t = 0) := HE.out.1
          clear HE
          by_cases hc : nf < mt
          · obtain ⟨a1, c1, q1, g1⟩ := pslice_lh a cap l nf mt (by omega) (by omega) hv.cap
            have JJ := JO mt a1 c1 (Nat.max_eq_right (by omega)) (by omega) g1
            clear JO g1 hv
            go_wp2_with fail
            refine JJ.out.mono ?_
            rintro e w5 ⟨v5, rfl, h5, hg5⟩
            obtain ⟨a5, c5, rfl⟩ := h5.shape
            go_wp2
            go_ret2
            exact ⟨_, by rw [HE1.out]; rfl, h5, grown_trans hgw hg5⟩
          · have hc' : mt ≤ nf := by omega
            obtain ⟨a1, c1, q1, g1⟩ := pslice_lh a cap l nf nf (by omega) (by omega) hv.cap
            have JJ := JO nf a1 c1 (Nat.max_eq_left hc') (by omega) g1
            rw [Nat.sub_self] at JJ
            clear JO g1 hv hc
            go_wp2_with fail
            refine JJ.out.mono ?_
            rintro e w5 ⟨v5, rfl, h5, hg5⟩
            obtain ⟨a5, c5, rfl⟩ := h5.shape
            go_wp2
            go_ret2
            exact ⟨_, by rw [HE1.out]; rfl, h5, grown_trans hgw hg5⟩
  · have hE : rangeE l f t = pairsFaultF l := by
      have e1 : getE l f = pairsFaultF l := by rw [getE, if_neg hz]
      rw [rangeE, if_neg (by rw [e1]; exact hz), e1]
    have hF : rangeF l f t = [] := by rw [rangeF, if_neg (by rw [hE]; exact hz)]
    rw [hE, hF]
    generalize pairsFaultF l = z at *
    have hz' : (z != 0) = true := by simpa using hz
    clear hE hF hv hu hx
    go_enter Try.func30, Try.ntmps30
    go_wp2_with fail
    refine CL.out.mono ?_
    rintro e w1 ⟨rfl, hg1⟩
    go_wp2
    go_ret2
    exact ⟨_, rfl, pairsIs_nil _, hg1⟩
end Go.Proofs.Ytpmfbfflacbmjac
