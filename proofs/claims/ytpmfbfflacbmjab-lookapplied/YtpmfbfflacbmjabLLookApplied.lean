/-
  The walk of canopykeep.LookApplied, over what the code must keep.
-/
import Derived.Test.YtpmfbfflacbmjabKTxn
import Derived.Test.YtpmfbfflacbmjabLFK
import Derived.Test.YtpmfbfflacbmjabKSame
import Derived.Test.YtpmfbfflacbmjabPart2
import Derived.Test.YtpmfbfflacbmjabPart7
namespace Go.Proofs.Ytpmfbfflacbmjab
open Go.RowKit
set_option maxRecDepth 100000 in
set_option maxHeartbeats 4000000 in
theorem lookApplied_walk (hA : FApplyOK) (hG : FGetOK) (hW : TxWriteOK) (hN : TxNoteOK) (hC : TxCheckOK) (hL : TxLookOK) (w : World) (v u p : Value) (l ws : List Plc) (P : Plc) (hv : PlacesIs w v l) (hl : FitsQ l) (hs : PlacesIs w u ws) (hsl : FitsQ ws) (hP : PlaceIs w p P) (fP : PlcFits P) :
    Calls Try.prog 4 #[v, u, p] w fun e w' => e = .returned (.bool true) ∧ w.grownBy w' none := by
  obtain ⟨la, lc, rfl⟩ := hv.shape
  obtain ⟨sa, sc, rfl⟩ := hs.shape
  obtain ⟨p1, p2, p3, p4, p5, p6, rfl⟩ := hP.cells
  obtain ⟨hF, hS⟩ := mkP_ok l 20
  have HFO : Hid (∀ w', w.grownBy w' none → Calls Try.prog 9 #[.slice la l.length lc, .int .i64 20] w' fun e w'' => ∃ fa fc, e = .returned (.slice fa (mkP l 20).length fc) ∧ TensIs w'' (.slice fa (mkP l 20).length fc) (mkP l 20) ∧ w'.grownBy w'' none) := fun w' hg => by
    refine (kforest_any hA w' _ l 20 (hv.grown hg) hl (by omega)).mono ?_
    rintro e w'' ⟨x, rfl, hx, hg⟩
    obtain ⟨fa, fc, rfl⟩ := hx.shape
    exact ⟨fa, fc, rfl, hx, hg⟩
  obtain ⟨hTO, hTs, hTw, _⟩ := txOf_ok ws []
  have hTr := txOf_reads ws
  have KT : Hid (∀ w', w.grownBy w' none → Calls Try.prog 10 #[.slice sa ws.length sc, .slice none 0 0] w' fun e w'' => ∃ t1 t2 t3 t4, e = .returned (.tuple #[.agg #[.int .i64 (txOf ws []).start, .slice t1 (txOf ws []).reads.length t2, .slice t3 (txOf ws []).writes.length t4], .bool true]) ∧ TxIs w'' (.agg #[.int .i64 (txOf ws []).start, .slice t1 (txOf ws []).reads.length t2, .slice t3 (txOf ws []).writes.length t4]) (txOf ws []) ∧ w'.grownBy w'' none) := fun w' hg => ktxn_any hW hN hC w' _ _ ws [] (hs.grown hg) hsl (places_nilX _) ⟨by simp, fun i hi => absurd hi (by simp)⟩
  generalize txOf ws [] = T at *
  have KP : Hid (∀ w', w.grownBy w' none → Calls Try.prog 11 #[.agg #[.slice p1 P.name.length p2, .slice p3 P.key.length p4, .slice p5 P.value.length p6, .bool P.gone]] w' fun e w'' => ∃ q1 q2 q3 q4 q5 q6, e = .returned (.agg #[.slice q1 (writeF P).name.length q2, .slice q3 (writeF P).key.length q4, .bool (writeF P).gone, .slice q5 (writeF P).value.length q6]) ∧ SliceIs w'' (.slice q1 (writeF P).name.length q2) (writeF P).name ∧ SliceIs w'' (.slice q3 (writeF P).key.length q4) (writeF P).key ∧ SliceIs w'' (.slice q5 (writeF P).value.length q6) (writeF P).value ∧ w'.grownBy w'' none) := fun w' hg => write_of w' _ P (hP.grown hg) fP
  have hQE := writeF_okX P
  generalize writeF P = Q at *
  obtain ⟨Qn, Qk, _⟩ := (writeE_iff Q).1 hQE
  have hTwr : ∀ x ∈ T.writes, writeE x = 0 := hTO.wrs
  have hAF := apply_full T.writes (mkP l 20) 20 hF hTwr hS (by omega)
  generalize mkP l 20 = f at *
  have AP : Hid (∀ w' x y, TensIs w' x f → WritesIs w' y T.writes → Calls Try.prog 15 #[x, y] w' fun e w'' => ∃ n1 n2, e = .returned (.tuple #[.slice n1 (if applyE f T.writes = 0 then applyL f T.writes else []).length n2, .int .i64 (applyE f T.writes)]) ∧ TensIs w'' (.slice n1 (if applyE f T.writes = 0 then applyL f T.writes else []).length n2) (if applyE f T.writes = 0 then applyL f T.writes else []) ∧ w'.grownBy w'' none) := fun w' x y h1 h2 => by
    refine (FApplyOK.of hA w' x y f T.writes h1 h2 hF hTwr (by omega)).mono ?_
    rintro e w'' ⟨z, rfl, hz, hg⟩
    obtain ⟨n1, n2, rfl⟩ := hz.shape
    exact ⟨n1, n2, rfl, hz, hg⟩
  obtain ⟨W0, HX0, G0, Bpp⟩ := alloc_namedX w (.cells #[.slice p1 P.name.length p2, .slice p3 P.key.length p4, .slice p5 P.value.length p6, .bool P.gone] 25)
  by_cases hae : applyE f T.writes = 0
  · skip
    rw [if_pos hae, hae] at AP
    have hF2 := apply_forest T.writes f hF hae
    obtain ⟨la1, la2⟩ := look_applied hF hTO hae Qn Qk
    have GT : Hid (∀ w' x a b, TensIs w' x (applyL f T.writes) → SliceIs w' a Q.name → SliceIs w' b Q.key → Calls Try.prog 16 #[x, a, b] w' fun e w'' => ∃ x1 x2, e = .returned (.tuple #[.agg #[.bool (lookB f T Q.name Q.key), .slice x1 (lookV f T Q.name Q.key).length x2], .int .i64 0]) ∧ SliceIs w'' (.slice x1 (lookV f T Q.name Q.key).length x2) (lookV f T Q.name Q.key) ∧ w'.grownBy w'' none) := fun w' x a b h1 h2 h3 => by
      have := hG w' x a b (applyL f T.writes) Q.name Q.key h1 h2 h3 hF2.fits (by omega) (by omega)
      rw [(fget_ok hF2 _ _ Qn Qk).1, ← la1, ← la2] at this
      refine this.mono ?_
      rintro e w'' ⟨z, rfl, hz, hg⟩
      obtain ⟨x1, x2, rfl⟩ := hz.shape
      exact ⟨x1, x2, rfl, hz, hg⟩
    have LX : Hid (∀ w' x y a b, TensIs w' x f → TxIs w' y T → SliceIs w' a Q.name → SliceIs w' b Q.key → Calls Try.prog 13 #[x, y, a, b] w' fun e w'' => ∃ x1 x2, e = .returned (.tuple #[.agg #[.bool (lookB f T Q.name Q.key), .slice x1 (lookV f T Q.name Q.key).length x2], .bool (lookO f T Q.name Q.key), .int .i64 (lookE f T Q.name Q.key)]) ∧ SliceIs w'' (.slice x1 (lookV f T Q.name Q.key).length x2) (lookV f T Q.name Q.key) ∧ w'.grownBy w'' none) := fun w' x y a b h1 h2 h3 h4 => by
      refine (hL w' x y a b f T Q.name Q.key h1 hF.fits h2 (txOK_fits hTO) h3 h4 (by omega) (by omega)).mono ?_
      rintro e w'' ⟨z, rfl, hz, hg⟩
      obtain ⟨x1, x2, rfl⟩ := hz.shape
      exact ⟨x1, x2, rfl, hz, hg⟩
    have LN : Hid (∀ w' x y a b, TensIs w' x f → TxIs w' y T → SliceIs w' a [] → SliceIs w' b Q.key → Calls Try.prog 13 #[x, y, a, b] w' fun e w'' => ∃ x1 x2, e = .returned (.tuple #[.agg #[.bool (lookB f T [] Q.key), .slice x1 (lookV f T [] Q.key).length x2], .bool (lookO f T [] Q.key), .int .i64 (lookE f T [] Q.key)]) ∧ SliceIs w'' (.slice x1 (lookV f T [] Q.key).length x2) (lookV f T [] Q.key) ∧ w'.grownBy w'' none) := fun w' x y a b h1 h2 h3 h4 => by
      refine (hL w' x y a b f T [] Q.key h1 hF.fits h2 (txOK_fits hTO) h3 h4 (by simp) (by omega)).mono ?_
      rintro e w'' ⟨z, rfl, hz, hg⟩
      obtain ⟨x1, x2, rfl⟩ := hz.shape
      exact ⟨x1, x2, rfl, hz, hg⟩
    obtain ⟨e1, e2, e3, e4⟩ := look_noname hF hTO Q.key
    rw [e1, e2, e3, e4] at LN
    rw [look_ok hF hTO Qn Qk] at LX
    have SM : Hid (∀ w' x y a, SliceIs w' x a → SliceIs w' y a → Calls Try.prog 14 #[x, y] w' fun e w'' => e = .returned (.bool true) ∧ w'' = w') := fun w' x y a h1 h2 => by
      have := same_any w' x y a a h1 h2
      rw [decide_eq_true rfl] at this
      exact this
    generalize applyL f T.writes = N at *
    generalize lookB f T Q.name Q.key = XB at *
    generalize lookV f T Q.name Q.key = XV at *
    generalize lookO f T Q.name Q.key = XO at *
    have hbb : (XB == XB) = true := by simp
    clear hv hl hs hsl hP fP hA hG hW hN hC hL hF hS hTO hTs hTw hTr hQE Qn Qk e1 e2 e3 e4 la1 la2 hF2 hae hAF hTwr
    go_enter Try.func4, Try.ntmps4
    go_upto_region 1 with fail
    rw [← HX0.out]
    obtain ⟨ppB, hppB⟩ : ∃ ppB, ppB = w.heap.size := ⟨_, rfl⟩
    rw [← hppB] at Bpp ⊢
    clear hppB HX0
    go_wp2_with fail
    refine (HFO.out _ G0).mono ?_
    rintro e w1 ⟨fa, fc, rfl, h, hg1⟩
    have HT : Hid (TensIs w1 (.slice fa f.length fc) f) := h
    replace G0 : w.grownBy w1 none := grown_trans G0 hg1
    replace Bpp : Hid (w1.heap[ppB]? = some (.cells #[.slice p1 P.name.length p2, .slice p3 P.key.length p4, .slice p5 P.value.length p6, .bool P.gone] 25)) := pair_old hg1 Bpp.out
    clear h hg1
    go_wp2_with fail
    refine (KT.out _ G0).mono ?_
    rintro e w2 ⟨t1, t2, t3, t4, rfl, h, hg2⟩
    obtain ⟨W2, HW2, hA2, Btt⟩ := alloc_namedX w2 (.cells #[.int .i64 T.start, .slice t1 T.reads.length t2, .slice t3 T.writes.length t4] 31)
    have hs2 := grown_trans hg2 hA2
    have HX : Hid (TxIs W2 (.agg #[.int .i64 T.start, .slice t1 T.reads.length t2, .slice t3 T.writes.length t4]) T) := h.grown hA2
    replace G0 : w.grownBy W2 none := grown_trans G0 hs2
    replace Bpp : Hid (W2.heap[ppB]? = some (.cells #[.slice p1 P.name.length p2, .slice p3 P.key.length p4, .slice p5 P.value.length p6, .bool P.gone] 25)) := pair_old hs2 Bpp.out
    replace HT : Hid (TensIs W2 (.slice fa f.length fc) f) := HT.out.grown hs2
    clear h
    go_upto_region 3 with fail
    rw [← HW2.out]
    obtain ⟨ttB, httB⟩ : ∃ ttB, ttB = w2.heap.size := ⟨_, rfl⟩
    rw [← httB] at Btt ⊢
    clear httB HW2 hs2 hA2 hg2
    obtain ⟨ttc0, ttc1, ttc2⟩ := trip_room (grown_refl _ none) Btt.out
    go_wp2_with fail
    refine (AP.out _ _ _ HT.out HX.out.parts.2.2).mono ?_
    rintro e w3 ⟨n1, n2, rfl, h, hg3⟩
    clear ttc0 ttc1 ttc2
    have HNX : Hid (TensIs w3 (.slice n1 N.length n2) N) := h
    replace G0 : w.grownBy w3 none := grown_trans G0 hg3
    replace Bpp : Hid (w3.heap[ppB]? = some (.cells #[.slice p1 P.name.length p2, .slice p3 P.key.length p4, .slice p5 P.value.length p6, .bool P.gone] 25)) := pair_old hg3 Bpp.out
    replace Btt : Hid (w3.heap[ttB]? = some (.cells #[.int .i64 T.start, .slice t1 T.reads.length t2, .slice t3 T.writes.length t4] 31)) := pair_old hg3 Btt.out
    replace HT : Hid (TensIs w3 (.slice fa f.length fc) f) := HT.out.grown hg3
    replace HX : Hid (TxIs w3 (.agg #[.int .i64 T.start, .slice t1 T.reads.length t2, .slice t3 T.writes.length t4]) T) := HX.out.grown hg3
    clear h hg3
    obtain ⟨⟨ppc0, ppc1, ppc2, ppc3⟩, _⟩ := quad_room (grown_refl _ none) Bpp.out
    go_wp2_with fail
    refine (KP.out _ G0).mono ?_
    rintro e w4 ⟨q1, q2, q3, q4, q5, q6, rfl, h1, h2, h3, hg4⟩
    clear ppc0 ppc1 ppc2 ppc3
    obtain ⟨W4, HW4, hA4, Bqq⟩ := alloc_namedX w4 (.cells #[.slice q1 Q.name.length q2, .slice q3 Q.key.length q4, .bool Q.gone, .slice q5 Q.value.length q6] 35)
    have hs4 := grown_trans hg4 hA4
    have HQ1 : Hid (SliceIs W4 (.slice q1 Q.name.length q2) Q.name) := h1.grown hA4
    have HQ2 : Hid (SliceIs W4 (.slice q3 Q.key.length q4) Q.key) := h2.grown hA4
    replace G0 : w.grownBy W4 none := grown_trans G0 hs4
    replace Bpp : Hid (W4.heap[ppB]? = some (.cells #[.slice p1 P.name.length p2, .slice p3 P.key.length p4, .slice p5 P.value.length p6, .bool P.gone] 25)) := pair_old hs4 Bpp.out
    replace Btt : Hid (W4.heap[ttB]? = some (.cells #[.int .i64 T.start, .slice t1 T.reads.length t2, .slice t3 T.writes.length t4] 31)) := pair_old hs4 Btt.out
    replace HT : Hid (TensIs W4 (.slice fa f.length fc) f) := HT.out.grown hs4
    replace HX : Hid (TxIs W4 (.agg #[.int .i64 T.start, .slice t1 T.reads.length t2, .slice t3 T.writes.length t4]) T) := HX.out.grown hs4
    replace HNX : Hid (TensIs W4 (.slice n1 N.length n2) N) := HNX.out.grown hs4
    clear h1 h2
    go_upto_region 7 with fail
    rw [← HW4.out]
    obtain ⟨qqB, hqqB⟩ : ∃ qqB, qqB = w4.heap.size := ⟨_, rfl⟩
    rw [← hqqB] at Bqq ⊢
    clear hqqB HW4 hs4 hA4 hg4
    obtain ⟨ttc0, ttc1, ttc2⟩ := trip_room (grown_refl _ none) Btt.out
    obtain ⟨⟨qqc0, qqc1, qqc2, qqc3⟩, _⟩ := quad_room (grown_refl _ none) Bqq.out
    go_wp2_with fail
    refine (LX.out _ _ _ _ _ HT.out HX.out HQ1.out HQ2.out).mono ?_
    rintro e w5 ⟨x1, x2, rfl, h, hg5⟩
    clear ttc0 ttc1 ttc2 qqc0 qqc1 qqc2 qqc3
    obtain ⟨W5, HW5, hA5, Bxx⟩ := alloc_namedX w5 (.cells #[.bool XB, .slice x1 XV.length x2] 41)
    have hs5 := grown_trans hg5 hA5
    have HVX : Hid (SliceIs W5 (.slice x1 XV.length x2) XV) := h.grown hA5
    replace G0 : w.grownBy W5 none := grown_trans G0 hs5
    replace Bpp : Hid (W5.heap[ppB]? = some (.cells #[.slice p1 P.name.length p2, .slice p3 P.key.length p4, .slice p5 P.value.length p6, .bool P.gone] 25)) := pair_old hs5 Bpp.out
    replace Btt : Hid (W5.heap[ttB]? = some (.cells #[.int .i64 T.start, .slice t1 T.reads.length t2, .slice t3 T.writes.length t4] 31)) := pair_old hs5 Btt.out
    replace Bqq : Hid (W5.heap[qqB]? = some (.cells #[.slice q1 Q.name.length q2, .slice q3 Q.key.length q4, .bool Q.gone, .slice q5 Q.value.length q6] 35)) := pair_old hs5 Bqq.out
    replace HT : Hid (TensIs W5 (.slice fa f.length fc) f) := HT.out.grown hs5
    replace HX : Hid (TxIs W5 (.agg #[.int .i64 T.start, .slice t1 T.reads.length t2, .slice t3 T.writes.length t4]) T) := HX.out.grown hs5
    replace HNX : Hid (TensIs W5 (.slice n1 N.length n2) N) := HNX.out.grown hs5
    replace HQ1 : Hid (SliceIs W5 (.slice q1 Q.name.length q2) Q.name) := HQ1.out.grown hs5
    replace HQ2 : Hid (SliceIs W5 (.slice q3 Q.key.length q4) Q.key) := HQ2.out.grown hs5
    clear h
    go_upto_region 8 with fail
    rw [← HW5.out]
    obtain ⟨xxB, hxxB⟩ : ∃ xxB, xxB = w5.heap.size := ⟨_, rfl⟩
    rw [← hxxB] at Bxx ⊢
    clear hxxB HW5 hs5 hA5 hg5
    obtain ⟨⟨qqc0, qqc1, qqc2, qqc3⟩, _⟩ := quad_room (grown_refl _ none) Bqq.out
    go_wp2_with fail
    refine (GT.out _ _ _ _ HNX.out HQ1.out HQ2.out).mono ?_
    rintro e w6 ⟨y1, y2, rfl, h, hg6⟩
    clear qqc0 qqc1 qqc2 qqc3
    obtain ⟨W6, HW6, hA6, Byy⟩ := alloc_namedX w6 (.cells #[.bool XB, .slice y1 XV.length y2] 41)
    have hs6 := grown_trans hg6 hA6
    have HVY : Hid (SliceIs W6 (.slice y1 XV.length y2) XV) := h.grown hA6
    replace G0 : w.grownBy W6 none := grown_trans G0 hs6
    replace Bpp : Hid (W6.heap[ppB]? = some (.cells #[.slice p1 P.name.length p2, .slice p3 P.key.length p4, .slice p5 P.value.length p6, .bool P.gone] 25)) := pair_old hs6 Bpp.out
    replace Btt : Hid (W6.heap[ttB]? = some (.cells #[.int .i64 T.start, .slice t1 T.reads.length t2, .slice t3 T.writes.length t4] 31)) := pair_old hs6 Btt.out
    replace Bqq : Hid (W6.heap[qqB]? = some (.cells #[.slice q1 Q.name.length q2, .slice q3 Q.key.length q4, .bool Q.gone, .slice q5 Q.value.length q6] 35)) := pair_old hs6 Bqq.out
    replace Bxx : Hid (W6.heap[xxB]? = some (.cells #[.bool XB, .slice x1 XV.length x2] 41)) := pair_old hs6 Bxx.out
    replace HT : Hid (TensIs W6 (.slice fa f.length fc) f) := HT.out.grown hs6
    replace HX : Hid (TxIs W6 (.agg #[.int .i64 T.start, .slice t1 T.reads.length t2, .slice t3 T.writes.length t4]) T) := HX.out.grown hs6
    replace HNX : Hid (TensIs W6 (.slice n1 N.length n2) N) := HNX.out.grown hs6
    replace HQ1 : Hid (SliceIs W6 (.slice q1 Q.name.length q2) Q.name) := HQ1.out.grown hs6
    replace HQ2 : Hid (SliceIs W6 (.slice q3 Q.key.length q4) Q.key) := HQ2.out.grown hs6
    replace HVX : Hid (SliceIs W6 (.slice x1 XV.length x2) XV) := HVX.out.grown hs6
    clear h
    go_upto_region 9 with fail
    rw [← HW6.out]
    obtain ⟨yyB, hyyB⟩ : ∃ yyB, yyB = w6.heap.size := ⟨_, rfl⟩
    rw [← hyyB] at Byy ⊢
    clear hyyB HW6 hs6 hA6 hg6
    obtain ⟨ttc0, ttc1, ttc2⟩ := trip_room (grown_refl _ none) Btt.out
    obtain ⟨⟨qqc0, qqc1, qqc2, qqc3⟩, _⟩ := quad_room (grown_refl _ none) Bqq.out
    go_wp2_with fail
    refine (LN.out _ _ _ _ _ HT.out HX.out (sliceIs_nil _) HQ2.out).mono ?_
    rintro e w7 ⟨z1, z2, rfl, _, hg7⟩
    clear ttc0 ttc1 ttc2 qqc0 qqc1 qqc2 qqc3
    obtain ⟨W7, HW7, hA7, Bzz⟩ := alloc_namedX w7 (.cells #[.bool false, .slice z1 0 z2] 41)
    have hs7 := grown_trans hg7 hA7
    replace G0 : w.grownBy W7 none := grown_trans G0 hs7
    replace Bpp : Hid (W7.heap[ppB]? = some (.cells #[.slice p1 P.name.length p2, .slice p3 P.key.length p4, .slice p5 P.value.length p6, .bool P.gone] 25)) := pair_old hs7 Bpp.out
    replace Btt : Hid (W7.heap[ttB]? = some (.cells #[.int .i64 T.start, .slice t1 T.reads.length t2, .slice t3 T.writes.length t4] 31)) := pair_old hs7 Btt.out
    replace Bqq : Hid (W7.heap[qqB]? = some (.cells #[.slice q1 Q.name.length q2, .slice q3 Q.key.length q4, .bool Q.gone, .slice q5 Q.value.length q6] 35)) := pair_old hs7 Bqq.out
    replace Bxx : Hid (W7.heap[xxB]? = some (.cells #[.bool XB, .slice x1 XV.length x2] 41)) := pair_old hs7 Bxx.out
    replace Byy : Hid (W7.heap[yyB]? = some (.cells #[.bool XB, .slice y1 XV.length y2] 41)) := pair_old hs7 Byy.out
    replace HT : Hid (TensIs W7 (.slice fa f.length fc) f) := HT.out.grown hs7
    replace HX : Hid (TxIs W7 (.agg #[.int .i64 T.start, .slice t1 T.reads.length t2, .slice t3 T.writes.length t4]) T) := HX.out.grown hs7
    replace HNX : Hid (TensIs W7 (.slice n1 N.length n2) N) := HNX.out.grown hs7
    replace HQ1 : Hid (SliceIs W7 (.slice q1 Q.name.length q2) Q.name) := HQ1.out.grown hs7
    replace HQ2 : Hid (SliceIs W7 (.slice q3 Q.key.length q4) Q.key) := HQ2.out.grown hs7
    replace HVX : Hid (SliceIs W7 (.slice x1 XV.length x2) XV) := HVX.out.grown hs7
    replace HVY : Hid (SliceIs W7 (.slice y1 XV.length y2) XV) := HVY.out.grown hs7
    go_upto_region 10 with fail
    rw [← HW7.out]
    obtain ⟨zzB, hzzB⟩ : ∃ zzB, zzB = w7.heap.size := ⟨_, rfl⟩
    rw [← hzzB] at Bzz ⊢
    clear hzzB HW7 hs7 hA7 hg7
    have S1 : Hid (Calls Try.prog 14 #[.slice x1 XV.length x2, .slice y1 XV.length y2] W7 fun e w'' => e = .returned (.bool true) ∧ w'' = W7) := SM.out W7 _ _ _ HVX.out HVY.out
    obtain ⟨xc0, xc1, _, _⟩ := pair_room (grown_refl _ none) Bxx.out
    obtain ⟨yc0, yc1, _, _⟩ := pair_room (grown_refl _ none) Byy.out
    generalize XV.length = xl at *
    go_wp2_with fail
    refine S1.out.mono ?_
    rintro e w20 ⟨rfl, rfl⟩
    go_wp2
    go_ret
    exact ⟨rfl, G0⟩
  · skip
    rw [if_neg hae, hAF.resolve_left hae] at AP
    obtain ⟨N, hN0⟩ : ∃ N : FL, N = [] := ⟨_, rfl⟩
    rw [← hN0] at AP
    clear hN0
    clear hv hl hs hsl hP fP hA hG hW hN hC hL hF hS hTO hTs hTw hTr hQE Qn Qk hae hAF hTwr
    go_enter Try.func4, Try.ntmps4
    go_upto_region 1 with fail
    rw [← HX0.out]
    obtain ⟨ppB, hppB⟩ : ∃ ppB, ppB = w.heap.size := ⟨_, rfl⟩
    rw [← hppB] at Bpp ⊢
    clear hppB HX0
    go_wp2_with fail
    refine (HFO.out _ G0).mono ?_
    rintro e w1 ⟨fa, fc, rfl, h, hg1⟩
    have HT : Hid (TensIs w1 (.slice fa f.length fc) f) := h
    replace G0 : w.grownBy w1 none := grown_trans G0 hg1
    replace Bpp : Hid (w1.heap[ppB]? = some (.cells #[.slice p1 P.name.length p2, .slice p3 P.key.length p4, .slice p5 P.value.length p6, .bool P.gone] 25)) := pair_old hg1 Bpp.out
    clear h hg1
    go_wp2_with fail
    refine (KT.out _ G0).mono ?_
    rintro e w2 ⟨t1, t2, t3, t4, rfl, h, hg2⟩
    obtain ⟨W2, HW2, hA2, Btt⟩ := alloc_namedX w2 (.cells #[.int .i64 T.start, .slice t1 T.reads.length t2, .slice t3 T.writes.length t4] 31)
    have hs2 := grown_trans hg2 hA2
    have HX : Hid (TxIs W2 (.agg #[.int .i64 T.start, .slice t1 T.reads.length t2, .slice t3 T.writes.length t4]) T) := h.grown hA2
    replace G0 : w.grownBy W2 none := grown_trans G0 hs2
    replace Bpp : Hid (W2.heap[ppB]? = some (.cells #[.slice p1 P.name.length p2, .slice p3 P.key.length p4, .slice p5 P.value.length p6, .bool P.gone] 25)) := pair_old hs2 Bpp.out
    replace HT : Hid (TensIs W2 (.slice fa f.length fc) f) := HT.out.grown hs2
    clear h
    go_upto_region 3 with fail
    rw [← HW2.out]
    obtain ⟨ttB, httB⟩ : ∃ ttB, ttB = w2.heap.size := ⟨_, rfl⟩
    rw [← httB] at Btt ⊢
    clear httB HW2 hs2 hA2 hg2
    obtain ⟨ttc0, ttc1, ttc2⟩ := trip_room (grown_refl _ none) Btt.out
    go_wp2_with fail
    refine (AP.out _ _ _ HT.out HX.out.parts.2.2).mono ?_
    rintro e w3 ⟨n1, n2, rfl, h, hg3⟩
    clear ttc0 ttc1 ttc2
    have HNX : Hid (TensIs w3 (.slice n1 N.length n2) N) := h
    replace G0 : w.grownBy w3 none := grown_trans G0 hg3
    replace Bpp : Hid (w3.heap[ppB]? = some (.cells #[.slice p1 P.name.length p2, .slice p3 P.key.length p4, .slice p5 P.value.length p6, .bool P.gone] 25)) := pair_old hg3 Bpp.out
    replace Btt : Hid (w3.heap[ttB]? = some (.cells #[.int .i64 T.start, .slice t1 T.reads.length t2, .slice t3 T.writes.length t4] 31)) := pair_old hg3 Btt.out
    replace HT : Hid (TensIs w3 (.slice fa f.length fc) f) := HT.out.grown hg3
    replace HX : Hid (TxIs w3 (.agg #[.int .i64 T.start, .slice t1 T.reads.length t2, .slice t3 T.writes.length t4]) T) := HX.out.grown hg3
    clear h hg3
    go_wp2
    go_ret
    exact ⟨rfl, G0⟩
end Go.Proofs.Ytpmfbfflacbmjab
