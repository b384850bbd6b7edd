/-
  The walk of canopykeep.ScanApplied, over what the code must keep.
-/
import Derived.Test.YtpmfbfflacbmjabKTxn
import Derived.Test.YtpmfbfflacbmjabLFK
import Derived.Test.YtpmfbfflacbmjabKSame
import Derived.Test.YtpmfbfflacbmjabPart2
import Derived.Test.YtpmfbfflacbmjabPart7
import Derived.Test.YtpmfbfflacbmjabPart3
import Derived.Test.YtpmfbfflacbmjabKPairs
import Derived.Test.YtpmfbfflacbmjabKeyO
namespace Go.Proofs.Ytpmfbfflacbmjab
open Go.RowKit
set_option maxRecDepth 100000 in
set_option maxHeartbeats 4000000 in
theorem scanApplied_walk (hA : FApplyOK) (hR : FRangeOK) (hTC : TCheckOK) (hW : TxWriteOK) (hN : TxNoteOK) (hC : TxCheckOK) (hL : TxScanOK) (w : World) (v u p q : Value) (l ws : List Plc) (P : Plc) (kb : List UInt8) (hv : PlacesIs w v l) (hl : FitsQ l) (hs : PlacesIs w u ws) (hsl : FitsQ ws) (hP : PlaceIs w p P) (fP : PlcFits P) (hq : SliceIs w q kb) (hqm : kb.length ≤ maxLen) :
    Calls Try.prog 5 #[v, u, p, q] w fun e w' => e = .returned (.bool true) ∧ w.grownBy w' none := by
  obtain ⟨la, lc, rfl⟩ := hv.shape
  obtain ⟨sa, sc, rfl⟩ := hs.shape
  obtain ⟨p1, p2, p3, p4, p5, p6, rfl⟩ := hP.cells
  obtain ⟨ka, kc, rfl⟩ := hq.shape
  obtain ⟨hF, hS⟩ := mkP_ok l 20
  have HFO : Hid (∀ w', w.grownBy w' none → Calls Try.prog 9 #[.slice la l.length lc, .int .i64 20] w' fun e w'' => ∃ fa fc, e = .returned (.slice fa (mkP l 20).length fc) ∧ TensIs w'' (.slice fa (mkP l 20).length fc) (mkP l 20) ∧ w'.grownBy w'' none) := fun w' hg => by
    refine (kforest_any hA w' _ l 20 (hv.grown hg) hl (by omega)).mono ?_
    rintro e w'' ⟨x, rfl, hx, hg⟩
    obtain ⟨fa, fc, rfl⟩ := hx.shape
    exact ⟨fa, fc, rfl, hx, hg⟩
  obtain ⟨hTO, hTs, hTw, _⟩ := txOf_ok ws []
  have hTr := txOf_reads ws
  have KT : Hid (∀ w', w.grownBy w' none → Calls Try.prog 10 #[.slice sa ws.length sc, .slice none 0 0] w' fun e w'' => ∃ t1 t2 t3 t4, e = .returned (.tuple #[.agg #[.int .i64 (txOf ws []).start, .slice t1 (txOf ws []).reads.length t2, .slice t3 (txOf ws []).writes.length t4], .bool true]) ∧ TxIs w'' (.agg #[.int .i64 (txOf ws []).start, .slice t1 (txOf ws []).reads.length t2, .slice t3 (txOf ws []).writes.length t4]) (txOf ws []) ∧ w'.grownBy w'' none) := fun w' hg => ktxn_any hW hN hC w' _ _ ws [] (hs.grown hg) hsl (places_nilX _) ⟨by simp, fun i hi => absurd hi (by simp)⟩
  generalize txOf ws [] = T at *
  have KP : Hid (∀ w', w.grownBy w' none → Calls Try.prog 11 #[.agg #[.slice p1 P.name.length p2, .slice p3 P.key.length p4, .slice p5 P.value.length p6, .bool P.gone]] w' fun e w'' => ∃ q1 q2 q3 q4 q5 q6, e = .returned (.agg #[.slice q1 (writeF P).name.length q2, .slice q3 (writeF P).key.length q4, .bool (writeF P).gone, .slice q5 (writeF P).value.length q6]) ∧ SliceIs w'' (.slice q1 (writeF P).name.length q2) (writeF P).name ∧ SliceIs w'' (.slice q3 (writeF P).key.length q4) (writeF P).key ∧ SliceIs w'' (.slice q5 (writeF P).value.length q6) (writeF P).value ∧ w'.grownBy w'' none) := fun w' hg => write_of w' _ P (hP.grown hg) fP
  have hQE := writeF_okX P
  generalize writeF P = Q at *
  obtain ⟨Qn, Qk, _⟩ := (writeE_iff Q).1 hQE
  have hTwr : ∀ x ∈ T.writes, writeE x = 0 := hTO.wrs
  have hAF := apply_full T.writes (mkP l 20) 20 hF hTwr hS (by omega)
  generalize mkP l 20 = f at *
  have AP : Hid (∀ w' x y, TensIs w' x f → WritesIs w' y T.writes → Calls Try.prog 15 #[x, y] w' fun e w'' => ∃ n1 n2, e = .returned (.tuple #[.slice n1 (if applyE f T.writes = 0 then applyL f T.writes else []).length n2, .int .i64 (applyE f T.writes)]) ∧ TensIs w'' (.slice n1 (if applyE f T.writes = 0 then applyL f T.writes else []).length n2) (if applyE f T.writes = 0 then applyL f T.writes else []) ∧ w'.grownBy w'' none) := fun w' x y h1 h2 => by
    refine (FApplyOK.of hA w' x y f T.writes h1 h2 hF hTwr (by omega)).mono ?_
    rintro e w'' ⟨z, rfl, hz, hg⟩
    obtain ⟨n1, n2, rfl⟩ := hz.shape
    exact ⟨n1, n2, rfl, hz, hg⟩
  have KK : Hid (∀ w', w.grownBy w' none → Calls Try.prog 17 #[.slice ka kb.length kc] w' fun e w'' => ∃ b1 b2, e = .returned (.slice b1 (keyF kb).length b2) ∧ SliceIs w'' (.slice b1 (keyF kb).length b2) (keyF kb) ∧ w'.grownBy w'' none) := fun w' hg => by
    refine (keyO_any w' _ kb (hq.grown hg) hqm).mono ?_
    rintro e w'' ⟨z, rfl, hz, hg⟩
    have hz' : SliceIs w'' z (keyF kb) := (hz.part (base := 0)).slice
    obtain ⟨b1, b2, rfl⟩ := hz'.shape
    exact ⟨b1, b2, rfl, hz', hg⟩
  have hKb := keyF_lenX kb
  generalize keyF kb = KB at *
  obtain ⟨W0, HX0, G0, Bpp⟩ := alloc_namedX w (.cells #[.slice p1 P.name.length p2, .slice p3 P.key.length p4, .slice p5 P.value.length p6, .bool P.gone] 25)
  by_cases hae : applyE f T.writes = 0
  · skip
    rw [if_pos hae, hae] at AP
    have hF2 := apply_forest T.writes f hF hae
    obtain ⟨la1, la2⟩ := scan_applied hF hTO hae Qn Qk hKb
    have hTr2 : Tree (scanF f T Q.name Q.key KB) := by rw [la2]; exact range_treeX (of_tree hF2 _) _ _
    have hroom := hTr2.room
    have RG : Hid (∀ w' x a b c, TensIs w' x (applyL f T.writes) → SliceIs w' a Q.name → SliceIs w' b Q.key → SliceIs w' c KB → Calls Try.prog 19 #[x, a, b, c] w' fun e w'' => ∃ x1 x2, e = .returned (.tuple #[.slice x1 (scanF f T Q.name Q.key KB).length x2, .int .i64 0]) ∧ PairsIs w'' (.slice x1 (scanF f T Q.name Q.key KB).length x2) (scanF f T Q.name Q.key KB) ∧ w'.grownBy w'' none) := fun w' x a b c h1 h2 h3 h4 => by
      have := hR w' x a b c (applyL f T.writes) Q.name Q.key KB h1 h2 h3 h4 hF2.fits (by omega) (by omega) (by omega)
      obtain ⟨r1, r2, _⟩ := rangeF_ok (ofF (applyL f T.writes) Q.name) Q.key KB (of_tree hF2 _) Qk hKb
      have hfn : fnE (applyL f T.writes) Q.name = 0 := by rw [fnE, if_pos ((forest_iff _).2 hF2)]; exact (nameFault_iff _).2 Qn
      rw [frangeE, frangeF, if_pos hfn, if_pos hfn, r1, r2, ← la2] at this
      refine this.mono ?_
      rintro e w'' ⟨z, rfl, hz, hg⟩
      obtain ⟨x1, x2, rfl⟩ := hz.shape
      exact ⟨x1, x2, rfl, hz, hg⟩
    have SX : Hid (∀ w' x y a b c, TensIs w' x f → TxIs w' y T → SliceIs w' a Q.name → SliceIs w' b Q.key → SliceIs w' c KB → Calls Try.prog 18 #[x, y, a, b, c] w' fun e w'' => ∃ x1 x2, e = .returned (.tuple #[.slice x1 (scanF f T Q.name Q.key KB).length x2, .int .i64 (scanE f T Q.name Q.key KB)]) ∧ PairsIs w'' (.slice x1 (scanF f T Q.name Q.key KB).length x2) (scanF f T Q.name Q.key KB) ∧ w'.grownBy w'' none) := fun w' x y a b c h1 h2 h3 h4 h5 => by
      refine (hL w' x y a b c f T Q.name Q.key KB h1 hF.fits h2 (txOK_fits hTO) h3 h4 h5 (by omega) (by omega) (by omega)).mono ?_
      rintro e w'' ⟨z, rfl, hz, hg⟩
      obtain ⟨x1, x2, rfl⟩ := hz.shape
      exact ⟨x1, x2, rfl, hz, hg⟩
    have SN : Hid (∀ w' x y a b c, TensIs w' x f → TxIs w' y T → SliceIs w' a Q.name → SliceIs w' b [] → SliceIs w' c KB → Calls Try.prog 18 #[x, y, a, b, c] w' fun e w'' => ∃ x1 x2, e = .returned (.tuple #[.slice x1 (scanF f T Q.name [] KB).length x2, .int .i64 (scanE f T Q.name [] KB)]) ∧ PairsIs w'' (.slice x1 (scanF f T Q.name [] KB).length x2) (scanF f T Q.name [] KB) ∧ w'.grownBy w'' none) := fun w' x y a b c h1 h2 h3 h4 h5 => by
      refine (hL w' x y a b c f T Q.name [] KB h1 hF.fits h2 (txOK_fits hTO) h3 h4 h5 (by omega) (by simp) (by omega)).mono ?_
      rintro e w'' ⟨z, rfl, hz, hg⟩
      obtain ⟨x1, x2, rfl⟩ := hz.shape
      exact ⟨x1, x2, rfl, hz, hg⟩
    obtain ⟨e1, e2⟩ := scan_nokey hF hTO Qn KB
    rw [e1, e2] at SN
    rw [la1] at SX
    have SP : Hid (∀ w' x y, PairsIs w' x (scanF f T Q.name Q.key KB) → PairsIs w' y (scanF f T Q.name Q.key KB) → Calls Try.prog 20 #[x, y] w' fun e w'' => e = .returned (.bool true) ∧ w'.grownBy w'' none) := fun w' x y h1 h2 => by
        refine (ksamePairs_any w' x y _ _ h1 h2 (by omega)).mono ?_
        rintro e w'' ⟨rfl, hg⟩
        exact ⟨by simp, hg⟩
    have TC : Hid (∀ w' x, PairsIs w' x (scanF f T Q.name Q.key KB) → Calls Try.prog 21 #[x] w' fun e w'' => e = .returned (.int .i64 0) ∧ w'.grownBy w'' none) := fun w' x h1 => by
      have := hTC w' x _ h1 hTr2.fits
      rw [(tree_iff _).2 hTr2] at this
      exact this
    generalize applyL f T.writes = N at *
    generalize scanF f T Q.name Q.key KB = XF at *
    clear hv hl hs hsl hP fP hq hqm hA hR hTC hW hN hC hL hF hS hTO hTs hTw hTr hQE Qn Qk e1 e2 la1 la2 hF2 hae hAF hTwr hTr2 hKb
    go_enter Try.func5, Try.ntmps5
    go_upto_region 1 with fail
    rw [← HX0.out]
    obtain ⟨ppB, hppB⟩ : ∃ ppB, ppB = w.heap.size := ⟨_, rfl⟩
    rw [← hppB] at Bpp ⊢
    clear hppB HX0
    go_wp2_with fail
    refine (HFO.out _ G0).mono ?_
    rintro e w1 ⟨fa, fc, rfl, h, hg1⟩
    have HT : Hid (TensIs w1 (.slice fa f.length fc) f) := h
    replace G0 : w.grownBy w1 none := grown_trans G0 hg1
    replace Bpp : Hid (w1.heap[ppB]? = some (.cells #[.slice p1 P.name.length p2, .slice p3 P.key.length p4, .slice p5 P.value.length p6, .bool P.gone] 25)) := pair_old hg1 Bpp.out
    clear h hg1
    go_wp2_with fail
    refine (KT.out _ G0).mono ?_
    rintro e w2 ⟨t1, t2, t3, t4, rfl, h, hg2⟩
    obtain ⟨W2, HW2, hA2, Btt⟩ := alloc_namedX w2 (.cells #[.int .i64 T.start, .slice t1 T.reads.length t2, .slice t3 T.writes.length t4] 31)
    have hs2 := grown_trans hg2 hA2
    have HX : Hid (TxIs W2 (.agg #[.int .i64 T.start, .slice t1 T.reads.length t2, .slice t3 T.writes.length t4]) T) := h.grown hA2
    replace G0 : w.grownBy W2 none := grown_trans G0 hs2
    replace Bpp : Hid (W2.heap[ppB]? = some (.cells #[.slice p1 P.name.length p2, .slice p3 P.key.length p4, .slice p5 P.value.length p6, .bool P.gone] 25)) := pair_old hs2 Bpp.out
    replace HT : Hid (TensIs W2 (.slice fa f.length fc) f) := HT.out.grown hs2
    clear h
    go_upto_region 3 with fail
    rw [← HW2.out]
    obtain ⟨ttB, httB⟩ : ∃ ttB, ttB = w2.heap.size := ⟨_, rfl⟩
    rw [← httB] at Btt ⊢
    clear httB HW2 hs2 hA2 hg2
    obtain ⟨ttc0, ttc1, ttc2⟩ := trip_room (grown_refl _ none) Btt.out
    go_wp2_with fail
    refine (AP.out _ _ _ HT.out HX.out.parts.2.2).mono ?_
    rintro e w3 ⟨n1, n2, rfl, h, hg3⟩
    clear ttc0 ttc1 ttc2
    have HNX : Hid (TensIs w3 (.slice n1 N.length n2) N) := h
    replace G0 : w.grownBy w3 none := grown_trans G0 hg3
    replace Bpp : Hid (w3.heap[ppB]? = some (.cells #[.slice p1 P.name.length p2, .slice p3 P.key.length p4, .slice p5 P.value.length p6, .bool P.gone] 25)) := pair_old hg3 Bpp.out
    replace Btt : Hid (w3.heap[ttB]? = some (.cells #[.int .i64 T.start, .slice t1 T.reads.length t2, .slice t3 T.writes.length t4] 31)) := pair_old hg3 Btt.out
    replace HT : Hid (TensIs w3 (.slice fa f.length fc) f) := HT.out.grown hg3
    replace HX : Hid (TxIs w3 (.agg #[.int .i64 T.start, .slice t1 T.reads.length t2, .slice t3 T.writes.length t4]) T) := HX.out.grown hg3
    clear h hg3
    obtain ⟨⟨ppc0, ppc1, ppc2, ppc3⟩, _⟩ := quad_room (grown_refl _ none) Bpp.out
    go_wp2_with fail
    refine (KP.out _ G0).mono ?_
    rintro e w4 ⟨q1, q2, q3, q4, q5, q6, rfl, h1, h2, h3, hg4⟩
    clear ppc0 ppc1 ppc2 ppc3
    obtain ⟨W4, HW4, hA4, Bqq⟩ := alloc_namedX w4 (.cells #[.slice q1 Q.name.length q2, .slice q3 Q.key.length q4, .bool Q.gone, .slice q5 Q.value.length q6] 35)
    have hs4 := grown_trans hg4 hA4
    have HQ1 : Hid (SliceIs W4 (.slice q1 Q.name.length q2) Q.name) := h1.grown hA4
    have HQ2 : Hid (SliceIs W4 (.slice q3 Q.key.length q4) Q.key) := h2.grown hA4
    replace G0 : w.grownBy W4 none := grown_trans G0 hs4
    replace Bpp : Hid (W4.heap[ppB]? = some (.cells #[.slice p1 P.name.length p2, .slice p3 P.key.length p4, .slice p5 P.value.length p6, .bool P.gone] 25)) := pair_old hs4 Bpp.out
    replace Btt : Hid (W4.heap[ttB]? = some (.cells #[.int .i64 T.start, .slice t1 T.reads.length t2, .slice t3 T.writes.length t4] 31)) := pair_old hs4 Btt.out
    replace HT : Hid (TensIs W4 (.slice fa f.length fc) f) := HT.out.grown hs4
    replace HX : Hid (TxIs W4 (.agg #[.int .i64 T.start, .slice t1 T.reads.length t2, .slice t3 T.writes.length t4]) T) := HX.out.grown hs4
    replace HNX : Hid (TensIs W4 (.slice n1 N.length n2) N) := HNX.out.grown hs4
    clear h1 h2
    go_upto_region 7 with fail
    rw [← HW4.out]
    obtain ⟨qqB, hqqB⟩ : ∃ qqB, qqB = w4.heap.size := ⟨_, rfl⟩
    rw [← hqqB] at Bqq ⊢
    clear hqqB HW4 hs4 hA4 hg4
    go_wp2_with fail
    refine (KK.out _ G0).mono ?_
    rintro e w5 ⟨b1, b2, rfl, h, hg5⟩
    have HB : Hid (SliceIs w5 (.slice b1 KB.length b2) KB) := h
    replace G0 : w.grownBy w5 none := grown_trans G0 hg5
    replace Bpp : Hid (w5.heap[ppB]? = some (.cells #[.slice p1 P.name.length p2, .slice p3 P.key.length p4, .slice p5 P.value.length p6, .bool P.gone] 25)) := pair_old hg5 Bpp.out
    replace Btt : Hid (w5.heap[ttB]? = some (.cells #[.int .i64 T.start, .slice t1 T.reads.length t2, .slice t3 T.writes.length t4] 31)) := pair_old hg5 Btt.out
    replace Bqq : Hid (w5.heap[qqB]? = some (.cells #[.slice q1 Q.name.length q2, .slice q3 Q.key.length q4, .bool Q.gone, .slice q5 Q.value.length q6] 35)) := pair_old hg5 Bqq.out
    replace HT : Hid (TensIs w5 (.slice fa f.length fc) f) := HT.out.grown hg5
    replace HX : Hid (TxIs w5 (.agg #[.int .i64 T.start, .slice t1 T.reads.length t2, .slice t3 T.writes.length t4]) T) := HX.out.grown hg5
    replace HNX : Hid (TensIs w5 (.slice n1 N.length n2) N) := HNX.out.grown hg5
    replace HQ1 : Hid (SliceIs w5 (.slice q1 Q.name.length q2) Q.name) := HQ1.out.grown hg5
    replace HQ2 : Hid (SliceIs w5 (.slice q3 Q.key.length q4) Q.key) := HQ2.out.grown hg5
    clear h hg5
    obtain ⟨ttc0, ttc1, ttc2⟩ := trip_room (grown_refl _ none) Btt.out
    obtain ⟨⟨qqc0, qqc1, qqc2, qqc3⟩, _⟩ := quad_room (grown_refl _ none) Bqq.out
    go_wp2_with fail
    refine (SX.out _ _ _ _ _ _ HT.out HX.out HQ1.out HQ2.out HB.out).mono ?_
    rintro e w6 ⟨x1, x2, rfl, h, hg6⟩
    clear ttc0 ttc1 ttc2 qqc0 qqc1 qqc2 qqc3
    have HVX : Hid (PairsIs w6 (.slice x1 XF.length x2) XF) := h
    replace G0 : w.grownBy w6 none := grown_trans G0 hg6
    replace Bpp : Hid (w6.heap[ppB]? = some (.cells #[.slice p1 P.name.length p2, .slice p3 P.key.length p4, .slice p5 P.value.length p6, .bool P.gone] 25)) := pair_old hg6 Bpp.out
    replace Btt : Hid (w6.heap[ttB]? = some (.cells #[.int .i64 T.start, .slice t1 T.reads.length t2, .slice t3 T.writes.length t4] 31)) := pair_old hg6 Btt.out
    replace Bqq : Hid (w6.heap[qqB]? = some (.cells #[.slice q1 Q.name.length q2, .slice q3 Q.key.length q4, .bool Q.gone, .slice q5 Q.value.length q6] 35)) := pair_old hg6 Bqq.out
    replace HT : Hid (TensIs w6 (.slice fa f.length fc) f) := HT.out.grown hg6
    replace HX : Hid (TxIs w6 (.agg #[.int .i64 T.start, .slice t1 T.reads.length t2, .slice t3 T.writes.length t4]) T) := HX.out.grown hg6
    replace HNX : Hid (TensIs w6 (.slice n1 N.length n2) N) := HNX.out.grown hg6
    replace HQ1 : Hid (SliceIs w6 (.slice q1 Q.name.length q2) Q.name) := HQ1.out.grown hg6
    replace HQ2 : Hid (SliceIs w6 (.slice q3 Q.key.length q4) Q.key) := HQ2.out.grown hg6
    replace HB : Hid (SliceIs w6 (.slice b1 KB.length b2) KB) := HB.out.grown hg6
    clear h hg6
    obtain ⟨⟨qqc0, qqc1, qqc2, qqc3⟩, _⟩ := quad_room (grown_refl _ none) Bqq.out
    go_wp2_with fail
    refine (RG.out _ _ _ _ _ HNX.out HQ1.out HQ2.out HB.out).mono ?_
    rintro e w7 ⟨y1, y2, rfl, h, hg7⟩
    clear qqc0 qqc1 qqc2 qqc3
    have HVY : Hid (PairsIs w7 (.slice y1 XF.length y2) XF) := h
    replace G0 : w.grownBy w7 none := grown_trans G0 hg7
    replace Bpp : Hid (w7.heap[ppB]? = some (.cells #[.slice p1 P.name.length p2, .slice p3 P.key.length p4, .slice p5 P.value.length p6, .bool P.gone] 25)) := pair_old hg7 Bpp.out
    replace Btt : Hid (w7.heap[ttB]? = some (.cells #[.int .i64 T.start, .slice t1 T.reads.length t2, .slice t3 T.writes.length t4] 31)) := pair_old hg7 Btt.out
    replace Bqq : Hid (w7.heap[qqB]? = some (.cells #[.slice q1 Q.name.length q2, .slice q3 Q.key.length q4, .bool Q.gone, .slice q5 Q.value.length q6] 35)) := pair_old hg7 Bqq.out
    replace HT : Hid (TensIs w7 (.slice fa f.length fc) f) := HT.out.grown hg7
    replace HX : Hid (TxIs w7 (.agg #[.int .i64 T.start, .slice t1 T.reads.length t2, .slice t3 T.writes.length t4]) T) := HX.out.grown hg7
    replace HNX : Hid (TensIs w7 (.slice n1 N.length n2) N) := HNX.out.grown hg7
    replace HQ1 : Hid (SliceIs w7 (.slice q1 Q.name.length q2) Q.name) := HQ1.out.grown hg7
    replace HQ2 : Hid (SliceIs w7 (.slice q3 Q.key.length q4) Q.key) := HQ2.out.grown hg7
    replace HB : Hid (SliceIs w7 (.slice b1 KB.length b2) KB) := HB.out.grown hg7
    replace HVX : Hid (PairsIs w7 (.slice x1 XF.length x2) XF) := HVX.out.grown hg7
    clear h hg7
    obtain ⟨ttc0, ttc1, ttc2⟩ := trip_room (grown_refl _ none) Btt.out
    obtain ⟨⟨qqc0, qqc1, qqc2, qqc3⟩, _⟩ := quad_room (grown_refl _ none) Bqq.out
    go_wp2_with fail
    refine (SN.out _ _ _ _ _ _ HT.out HX.out HQ1.out (sliceIs_nil _) HB.out).mono ?_
    rintro e w8 ⟨z1, z2, rfl, _, hg8⟩
    clear ttc0 ttc1 ttc2 qqc0 qqc1 qqc2 qqc3
    replace G0 : w.grownBy w8 none := grown_trans G0 hg8
    replace Bpp : Hid (w8.heap[ppB]? = some (.cells #[.slice p1 P.name.length p2, .slice p3 P.key.length p4, .slice p5 P.value.length p6, .bool P.gone] 25)) := pair_old hg8 Bpp.out
    replace Btt : Hid (w8.heap[ttB]? = some (.cells #[.int .i64 T.start, .slice t1 T.reads.length t2, .slice t3 T.writes.length t4] 31)) := pair_old hg8 Btt.out
    replace Bqq : Hid (w8.heap[qqB]? = some (.cells #[.slice q1 Q.name.length q2, .slice q3 Q.key.length q4, .bool Q.gone, .slice q5 Q.value.length q6] 35)) := pair_old hg8 Bqq.out
    replace HT : Hid (TensIs w8 (.slice fa f.length fc) f) := HT.out.grown hg8
    replace HX : Hid (TxIs w8 (.agg #[.int .i64 T.start, .slice t1 T.reads.length t2, .slice t3 T.writes.length t4]) T) := HX.out.grown hg8
    replace HNX : Hid (TensIs w8 (.slice n1 N.length n2) N) := HNX.out.grown hg8
    replace HQ1 : Hid (SliceIs w8 (.slice q1 Q.name.length q2) Q.name) := HQ1.out.grown hg8
    replace HQ2 : Hid (SliceIs w8 (.slice q3 Q.key.length q4) Q.key) := HQ2.out.grown hg8
    replace HB : Hid (SliceIs w8 (.slice b1 KB.length b2) KB) := HB.out.grown hg8
    replace HVX : Hid (PairsIs w8 (.slice x1 XF.length x2) XF) := HVX.out.grown hg8
    replace HVY : Hid (PairsIs w8 (.slice y1 XF.length y2) XF) := HVY.out.grown hg8
    clear hg8
    go_wp2_with fail
    refine (SP.out _ _ _ HVX.out HVY.out).mono ?_
    rintro e w9 ⟨rfl, hg9⟩
    replace G0 : w.grownBy w9 none := grown_trans G0 hg9
    replace Bpp : Hid (w9.heap[ppB]? = some (.cells #[.slice p1 P.name.length p2, .slice p3 P.key.length p4, .slice p5 P.value.length p6, .bool P.gone] 25)) := pair_old hg9 Bpp.out
    replace Btt : Hid (w9.heap[ttB]? = some (.cells #[.int .i64 T.start, .slice t1 T.reads.length t2, .slice t3 T.writes.length t4] 31)) := pair_old hg9 Btt.out
    replace Bqq : Hid (w9.heap[qqB]? = some (.cells #[.slice q1 Q.name.length q2, .slice q3 Q.key.length q4, .bool Q.gone, .slice q5 Q.value.length q6] 35)) := pair_old hg9 Bqq.out
    replace HT : Hid (TensIs w9 (.slice fa f.length fc) f) := HT.out.grown hg9
    replace HX : Hid (TxIs w9 (.agg #[.int .i64 T.start, .slice t1 T.reads.length t2, .slice t3 T.writes.length t4]) T) := HX.out.grown hg9
    replace HNX : Hid (TensIs w9 (.slice n1 N.length n2) N) := HNX.out.grown hg9
    replace HQ1 : Hid (SliceIs w9 (.slice q1 Q.name.length q2) Q.name) := HQ1.out.grown hg9
    replace HQ2 : Hid (SliceIs w9 (.slice q3 Q.key.length q4) Q.key) := HQ2.out.grown hg9
    replace HB : Hid (SliceIs w9 (.slice b1 KB.length b2) KB) := HB.out.grown hg9
    replace HVX : Hid (PairsIs w9 (.slice x1 XF.length x2) XF) := HVX.out.grown hg9
    replace HVY : Hid (PairsIs w9 (.slice y1 XF.length y2) XF) := HVY.out.grown hg9
    clear hg9
    go_wp2_with fail
    refine (TC.out _ _ HVX.out).mono ?_
    rintro e w10 ⟨rfl, hg10⟩
    replace G0 : w.grownBy w10 none := grown_trans G0 hg10
    replace Bpp : Hid (w10.heap[ppB]? = some (.cells #[.slice p1 P.name.length p2, .slice p3 P.key.length p4, .slice p5 P.value.length p6, .bool P.gone] 25)) := pair_old hg10 Bpp.out
    replace Btt : Hid (w10.heap[ttB]? = some (.cells #[.int .i64 T.start, .slice t1 T.reads.length t2, .slice t3 T.writes.length t4] 31)) := pair_old hg10 Btt.out
    replace Bqq : Hid (w10.heap[qqB]? = some (.cells #[.slice q1 Q.name.length q2, .slice q3 Q.key.length q4, .bool Q.gone, .slice q5 Q.value.length q6] 35)) := pair_old hg10 Bqq.out
    replace HT : Hid (TensIs w10 (.slice fa f.length fc) f) := HT.out.grown hg10
    replace HX : Hid (TxIs w10 (.agg #[.int .i64 T.start, .slice t1 T.reads.length t2, .slice t3 T.writes.length t4]) T) := HX.out.grown hg10
    replace HNX : Hid (TensIs w10 (.slice n1 N.length n2) N) := HNX.out.grown hg10
    replace HQ1 : Hid (SliceIs w10 (.slice q1 Q.name.length q2) Q.name) := HQ1.out.grown hg10
    replace HQ2 : Hid (SliceIs w10 (.slice q3 Q.key.length q4) Q.key) := HQ2.out.grown hg10
    replace HB : Hid (SliceIs w10 (.slice b1 KB.length b2) KB) := HB.out.grown hg10
    replace HVX : Hid (PairsIs w10 (.slice x1 XF.length x2) XF) := HVX.out.grown hg10
    replace HVY : Hid (PairsIs w10 (.slice y1 XF.length y2) XF) := HVY.out.grown hg10
    clear hg10
    go_wp2
    go_ret
    exact ⟨rfl, G0⟩
  · skip
    rw [if_neg hae, hAF.resolve_left hae] at AP
    obtain ⟨N, hN0⟩ : ∃ N : FL, N = [] := ⟨_, rfl⟩
    rw [← hN0] at AP
    clear hN0
    clear hv hl hs hsl hP fP hq hqm hA hR hTC hW hN hC hL hF hS hTO hTs hTw hTr hQE Qn Qk hae hAF hTwr hKb
    go_enter Try.func5, Try.ntmps5
    go_upto_region 1 with fail
    rw [← HX0.out]
    obtain ⟨ppB, hppB⟩ : ∃ ppB, ppB = w.heap.size := ⟨_, rfl⟩
    rw [← hppB] at Bpp ⊢
    clear hppB HX0
    go_wp2_with fail
    refine (HFO.out _ G0).mono ?_
    rintro e w1 ⟨fa, fc, rfl, h, hg1⟩
    have HT : Hid (TensIs w1 (.slice fa f.length fc) f) := h
    replace G0 : w.grownBy w1 none := grown_trans G0 hg1
    replace Bpp : Hid (w1.heap[ppB]? = some (.cells #[.slice p1 P.name.length p2, .slice p3 P.key.length p4, .slice p5 P.value.length p6, .bool P.gone] 25)) := pair_old hg1 Bpp.out
    clear h hg1
    go_wp2_with fail
    refine (KT.out _ G0).mono ?_
    rintro e w2 ⟨t1, t2, t3, t4, rfl, h, hg2⟩
    obtain ⟨W2, HW2, hA2, Btt⟩ := alloc_namedX w2 (.cells #[.int .i64 T.start, .slice t1 T.reads.length t2, .slice t3 T.writes.length t4] 31)
    have hs2 := grown_trans hg2 hA2
    have HX : Hid (TxIs W2 (.agg #[.int .i64 T.start, .slice t1 T.reads.length t2, .slice t3 T.writes.length t4]) T) := h.grown hA2
    replace G0 : w.grownBy W2 none := grown_trans G0 hs2
    replace Bpp : Hid (W2.heap[ppB]? = some (.cells #[.slice p1 P.name.length p2, .slice p3 P.key.length p4, .slice p5 P.value.length p6, .bool P.gone] 25)) := pair_old hs2 Bpp.out
    replace HT : Hid (TensIs W2 (.slice fa f.length fc) f) := HT.out.grown hs2
    clear h
    go_upto_region 3 with fail
    rw [← HW2.out]
    obtain ⟨ttB, httB⟩ : ∃ ttB, ttB = w2.heap.size := ⟨_, rfl⟩
    rw [← httB] at Btt ⊢
    clear httB HW2 hs2 hA2 hg2
    obtain ⟨ttc0, ttc1, ttc2⟩ := trip_room (grown_refl _ none) Btt.out
    go_wp2_with fail
    refine (AP.out _ _ _ HT.out HX.out.parts.2.2).mono ?_
    rintro e w3 ⟨n1, n2, rfl, h, hg3⟩
    clear ttc0 ttc1 ttc2
    have HNX : Hid (TensIs w3 (.slice n1 N.length n2) N) := h
    replace G0 : w.grownBy w3 none := grown_trans G0 hg3
    replace Bpp : Hid (w3.heap[ppB]? = some (.cells #[.slice p1 P.name.length p2, .slice p3 P.key.length p4, .slice p5 P.value.length p6, .bool P.gone] 25)) := pair_old hg3 Bpp.out
    replace Btt : Hid (w3.heap[ttB]? = some (.cells #[.int .i64 T.start, .slice t1 T.reads.length t2, .slice t3 T.writes.length t4] 31)) := pair_old hg3 Btt.out
    replace HT : Hid (TensIs w3 (.slice fa f.length fc) f) := HT.out.grown hg3
    replace HX : Hid (TxIs w3 (.agg #[.int .i64 T.start, .slice t1 T.reads.length t2, .slice t3 T.writes.length t4]) T) := HX.out.grown hg3
    clear h hg3
    go_wp2
    go_ret
    exact ⟨rfl, G0⟩
end Go.Proofs.Ytpmfbfflacbmjab
