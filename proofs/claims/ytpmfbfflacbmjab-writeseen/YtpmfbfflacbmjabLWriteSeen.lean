/-
  The walk of canopykeep.WriteSeen, over what the code must keep.
-/
import Derived.Test.YtpmfbfflacbmjabKTxn
import Derived.Test.YtpmfbfflacbmjabLFK
import Derived.Test.YtpmfbfflacbmjabKSame
import Derived.Test.YtpmfbfflacbmjabPart2
import Derived.Test.YtpmfbfflacbmjabPart7
namespace Go.Proofs.Ytpmfbfflacbmjab
open Go.RowKit
set_option maxRecDepth 100000 in
set_option maxHeartbeats 4000000 in
theorem writeSeen_walk (hA : FApplyOK) (hW : TxWriteOK) (hN : TxNoteOK) (hC : TxCheckOK) (hL : TxLookOK) (w : World) (v u p o : Value) (l ws : List Plc) (P P2 : Plc) (hv : PlacesIs w v l) (hl : FitsQ l) (hs : PlacesIs w u ws) (hsl : FitsQ ws) (hP : PlaceIs w p P) (fP : PlcFits P) (hP2 : PlaceIs w o P2) (fP2 : PlcFits P2) :
    Calls Try.prog 3 #[v, u, p, o] w fun e w' => e = .returned (.bool true) ∧ w.grownBy w' none := by
  obtain ⟨la, lc, rfl⟩ := hv.shape
  obtain ⟨sa, sc, rfl⟩ := hs.shape
  obtain ⟨p1, p2, p3, p4, p5, p6, rfl⟩ := hP.cells
  obtain ⟨o1, o2, o3, o4, o5, o6, rfl⟩ := hP2.cells
  obtain ⟨hF, hS⟩ := mkP_ok l 20
  have HFO : Hid (∀ w', w.grownBy w' none → Calls Try.prog 9 #[.slice la l.length lc, .int .i64 20] w' fun e w'' => ∃ fa fc, e = .returned (.slice fa (mkP l 20).length fc) ∧ TensIs w'' (.slice fa (mkP l 20).length fc) (mkP l 20) ∧ w'.grownBy w'' none) := fun w' hg => by
    refine (kforest_any hA w' _ l 20 (hv.grown hg) hl (by omega)).mono ?_
    rintro e w'' ⟨x, rfl, hx, hg⟩
    obtain ⟨fa, fc, rfl⟩ := hx.shape
    exact ⟨fa, fc, rfl, hx, hg⟩
  obtain ⟨hTO, hTs, hTw, _⟩ := txOf_ok ws []
  have hTr := txOf_reads ws
  have KT : Hid (∀ w', w.grownBy w' none → Calls Try.prog 10 #[.slice sa ws.length sc, .slice none 0 0] w' fun e w'' => ∃ t1 t2 t3 t4, e = .returned (.tuple #[.agg #[.int .i64 (txOf ws []).start, .slice t1 (txOf ws []).reads.length t2, .slice t3 (txOf ws []).writes.length t4], .bool true]) ∧ TxIs w'' (.agg #[.int .i64 (txOf ws []).start, .slice t1 (txOf ws []).reads.length t2, .slice t3 (txOf ws []).writes.length t4]) (txOf ws []) ∧ w'.grownBy w'' none) := fun w' hg => ktxn_any hW hN hC w' _ _ ws [] (hs.grown hg) hsl (places_nilX _) ⟨by simp, fun i hi => absurd hi (by simp)⟩
  generalize txOf ws [] = T at *
  have KP : Hid (∀ w', w.grownBy w' none → Calls Try.prog 11 #[.agg #[.slice p1 P.name.length p2, .slice p3 P.key.length p4, .slice p5 P.value.length p6, .bool P.gone]] w' fun e w'' => ∃ q1 q2 q3 q4 q5 q6, e = .returned (.agg #[.slice q1 (writeF P).name.length q2, .slice q3 (writeF P).key.length q4, .bool (writeF P).gone, .slice q5 (writeF P).value.length q6]) ∧ SliceIs w'' (.slice q1 (writeF P).name.length q2) (writeF P).name ∧ SliceIs w'' (.slice q3 (writeF P).key.length q4) (writeF P).key ∧ SliceIs w'' (.slice q5 (writeF P).value.length q6) (writeF P).value ∧ w'.grownBy w'' none) := fun w' hg => write_of w' _ P (hP.grown hg) fP
  have hQE := writeF_okX P
  generalize writeF P = Q at *
  obtain ⟨Qn, Qk, _⟩ := (writeE_iff Q).1 hQE
  have KO : Hid (∀ w', w.grownBy w' none → Calls Try.prog 11 #[.agg #[.slice o1 P2.name.length o2, .slice o3 P2.key.length o4, .slice o5 P2.value.length o6, .bool P2.gone]] w' fun e w'' => ∃ q1 q2 q3 q4 q5 q6, e = .returned (.agg #[.slice q1 (writeF P2).name.length q2, .slice q3 (writeF P2).key.length q4, .bool (writeF P2).gone, .slice q5 (writeF P2).value.length q6]) ∧ SliceIs w'' (.slice q1 (writeF P2).name.length q2) (writeF P2).name ∧ SliceIs w'' (.slice q3 (writeF P2).key.length q4) (writeF P2).key ∧ SliceIs w'' (.slice q5 (writeF P2).value.length q6) (writeF P2).value ∧ w'.grownBy w'' none) := fun w' hg => write_of w' _ P2 (hP2.grown hg) fP2
  have hOE := writeF_okX P2
  generalize writeF P2 = O at *
  obtain ⟨On, Ok, _⟩ := (writeE_iff O).1 hOE
  generalize mkP l 20 = f at *
  have hE2 : twriteE T Q = 0 := by
    rw [write_ok hTO hQE]
    by_cases hh : hasW T.writes Q = true
    · rw [if_pos hh]
    · rw [if_neg hh, if_neg (by omega)]
  have hT2 := write_tx hTO hQE hE2
  have TW : Hid (∀ w' x y, TxIs w' x T → WriteIs w' y Q → Calls Try.prog 12 #[x, y] w' fun e w'' => ∃ s1 s2 s3 s4, e = .returned (.tuple #[.agg #[.int .i64 (twriteT T Q).start, .slice s1 (twriteT T Q).reads.length s2, .slice s3 (twriteT T Q).writes.length s4], .int .i64 0]) ∧ TxIs w'' (.agg #[.int .i64 (twriteT T Q).start, .slice s1 (twriteT T Q).reads.length s2, .slice s3 (twriteT T Q).writes.length s4]) (twriteT T Q) ∧ w'.grownBy w'' none) := fun w' x y h1 h2 => by
    have := hW w' x y T Q h1 (txOK_fits hTO) h2 (by obtain ⟨_, _, h3⟩ := (writeE_iff Q).1 hQE; refine ⟨by omega, by omega, ?_⟩; split at h3; · rw [h3]; simp
                                                    · omega)
    rw [hE2] at this
    refine this.mono ?_
    rintro e w'' ⟨z, rfl, hz, hg⟩
    obtain ⟨s1, s2, s3, s4, rfl⟩ := hz.agg
    exact ⟨s1, s2, s3, s4, rfl, hz, hg⟩
  have LX : Hid (∀ w' x y a b, TensIs w' x f → TxIs w' y (twriteT T Q) → SliceIs w' a Q.name → SliceIs w' b Q.key → Calls Try.prog 13 #[x, y, a, b] w' fun e w'' => ∃ x1 x2, e = .returned (.tuple #[.agg #[.bool (lookB f (twriteT T Q) Q.name Q.key), .slice x1 (lookV f (twriteT T Q) Q.name Q.key).length x2], .bool (lookO f (twriteT T Q) Q.name Q.key), .int .i64 (lookE f (twriteT T Q) Q.name Q.key)]) ∧ SliceIs w'' (.slice x1 (lookV f (twriteT T Q) Q.name Q.key).length x2) (lookV f (twriteT T Q) Q.name Q.key) ∧ w'.grownBy w'' none) := fun w' x y a b h1 h2 h3 h4 => by
    refine (hL w' x y a b f (twriteT T Q) Q.name Q.key h1 hF.fits h2 (txOK_fits hT2) h3 h4 (by omega) (by omega)).mono ?_
    rintro e w'' ⟨z, rfl, hz, hg⟩
    obtain ⟨x1, x2, rfl⟩ := hz.shape
    exact ⟨x1, x2, rfl, hz, hg⟩
  have LY : Hid (∀ w' x y a b, TensIs w' x f → TxIs w' y (twriteT T Q) → SliceIs w' a O.name → SliceIs w' b O.key → Calls Try.prog 13 #[x, y, a, b] w' fun e w'' => ∃ x1 x2, e = .returned (.tuple #[.agg #[.bool (lookB f (twriteT T Q) O.name O.key), .slice x1 (lookV f (twriteT T Q) O.name O.key).length x2], .bool (lookO f (twriteT T Q) O.name O.key), .int .i64 (lookE f (twriteT T Q) O.name O.key)]) ∧ SliceIs w'' (.slice x1 (lookV f (twriteT T Q) O.name O.key).length x2) (lookV f (twriteT T Q) O.name O.key) ∧ w'.grownBy w'' none) := fun w' x y a b h1 h2 h3 h4 => by
    refine (hL w' x y a b f (twriteT T Q) O.name O.key h1 hF.fits h2 (txOK_fits hT2) h3 h4 (by omega) (by omega)).mono ?_
    rintro e w'' ⟨z, rfl, hz, hg⟩
    obtain ⟨x1, x2, rfl⟩ := hz.shape
    exact ⟨x1, x2, rfl, hz, hg⟩
  have LZ : Hid (∀ w' x y a b, TensIs w' x f → TxIs w' y T → SliceIs w' a O.name → SliceIs w' b O.key → Calls Try.prog 13 #[x, y, a, b] w' fun e w'' => ∃ x1 x2, e = .returned (.tuple #[.agg #[.bool (lookB f T O.name O.key), .slice x1 (lookV f T O.name O.key).length x2], .bool (lookO f T O.name O.key), .int .i64 (lookE f T O.name O.key)]) ∧ SliceIs w'' (.slice x1 (lookV f T O.name O.key).length x2) (lookV f T O.name O.key) ∧ w'.grownBy w'' none) := fun w' x y a b h1 h2 h3 h4 => by
    refine (hL w' x y a b f T O.name O.key h1 hF.fits h2 (txOK_fits hTO) h3 h4 (by omega) (by omega)).mono ?_
    rintro e w'' ⟨z, rfl, hz, hg⟩
    obtain ⟨x1, x2, rfl⟩ := hz.shape
    exact ⟨x1, x2, rfl, hz, hg⟩
  obtain ⟨x1e, x2e, x3e, x4e⟩ := look_own hF hTO hQE hE2
  rw [x1e, x2e, x3e, x4e] at LX
  rw [look_ok hF hT2 On Ok] at LY
  rw [look_ok hF hTO On Ok] at LZ
  have HNE : Hid (¬ (Q.name = O.name ∧ Q.key = O.key) → lookO f (twriteT T Q) O.name O.key = lookO f T O.name O.key ∧ lookB f (twriteT T Q) O.name O.key = lookB f T O.name O.key ∧ lookV f (twriteT T Q) O.name O.key = lookV f T O.name O.key) := fun h => look_other hF hTO hQE hE2 On Ok h
  generalize lookO f (twriteT T Q) O.name O.key = YO at *
  generalize lookB f (twriteT T Q) O.name O.key = YB at *
  generalize lookV f (twriteT T Q) O.name O.key = YV at *
  generalize lookO f T O.name O.key = ZO at *
  generalize lookB f T O.name O.key = ZB at *
  generalize lookV f T O.name O.key = ZV at *
  generalize twriteT T Q = T2 at *
  have SM : Hid (∀ w' x y a b, SliceIs w' x a → SliceIs w' y b → Calls Try.prog 14 #[x, y] w' fun e w'' => e = .returned (.bool (decide (a = b))) ∧ w'' = w') := fun w' x y a b h1 h2 => same_any w' x y a b h1 h2
  obtain ⟨W1, HW1, hg1, BP1⟩ := alloc_namedX w (.cells #[.slice p1 P.name.length p2, .slice p3 P.key.length p4, .slice p5 P.value.length p6, .bool P.gone] 25)
  obtain ⟨W0, HW0, hg0, Bpo⟩ := alloc_namedX W1 (.cells #[.slice o1 P2.name.length o2, .slice o3 P2.key.length o4, .slice o5 P2.value.length o6, .bool P2.gone] 25)
  have s1 : W1.heap.size = w.heap.size + 1 := by rw [HW1.out]; simp
  rw [s1] at Bpo
  have Bpp : Hid (W0.heap[w.heap.size]? = some (.cells #[.slice p1 P.name.length p2, .slice p3 P.key.length p4, .slice p5 P.value.length p6, .bool P.gone] 25)) := pair_old hg0 BP1.out
  have G0 := grown_trans hg1 hg0
  have HX0 : Hid (W0 = (w.alloc (.cells #[.slice p1 P.name.length p2, .slice p3 P.key.length p4, .slice p5 P.value.length p6, .bool P.gone] 25)).alloc (.cells #[.slice o1 P2.name.length o2, .slice o3 P2.key.length o4, .slice o5 P2.value.length o6, .bool P2.gone] 25)) := by show _ = _; rw [HW0.out, HW1.out]
  clear hv hl hs hsl hP fP hP2 fP2 hA hW hN hC hL hF hS hTO hTs hTw hTr hT2 hE2 x1e x2e x3e x4e hQE hOE Qn Qk On Ok s1 BP1 HW1 HW0 hg1 hg0
  go_enter Try.func3, Try.ntmps3
  go_upto_region 1 with fail
  rw [← HX0.out]
  obtain ⟨poB, hpoB⟩ : ∃ poB, poB = w.heap.size + 1 := ⟨_, rfl⟩
  obtain ⟨ppB, hppB⟩ : ∃ ppB, ppB = w.heap.size := ⟨_, rfl⟩
  rw [← hpoB] at Bpo ⊢
  rw [← hppB] at Bpp ⊢
  clear hpoB hppB HX0
  go_wp2_with fail
  refine (HFO.out _ G0).mono ?_
  rintro e w1 ⟨fa, fc, rfl, h, hg1⟩
  have HT : Hid (TensIs w1 (.slice fa f.length fc) f) := h
  replace G0 : w.grownBy w1 none := grown_trans G0 hg1
  replace Bpp : Hid (w1.heap[ppB]? = some (.cells #[.slice p1 P.name.length p2, .slice p3 P.key.length p4, .slice p5 P.value.length p6, .bool P.gone] 25)) := pair_old hg1 Bpp.out
  replace Bpo : Hid (w1.heap[poB]? = some (.cells #[.slice o1 P2.name.length o2, .slice o3 P2.key.length o4, .slice o5 P2.value.length o6, .bool P2.gone] 25)) := pair_old hg1 Bpo.out
  clear h hg1
  go_wp2_with fail
  refine (KT.out _ G0).mono ?_
  rintro e w2 ⟨t1, t2, t3, t4, rfl, h, hg2⟩
  obtain ⟨W2, HW2, hA2, Btt⟩ := alloc_namedX w2 (.cells #[.int .i64 T.start, .slice t1 T.reads.length t2, .slice t3 T.writes.length t4] 31)
  have hs2 := grown_trans hg2 hA2
  have HX : Hid (TxIs W2 (.agg #[.int .i64 T.start, .slice t1 T.reads.length t2, .slice t3 T.writes.length t4]) T) := h.grown hA2
  replace G0 : w.grownBy W2 none := grown_trans G0 hs2
  replace Bpp : Hid (W2.heap[ppB]? = some (.cells #[.slice p1 P.name.length p2, .slice p3 P.key.length p4, .slice p5 P.value.length p6, .bool P.gone] 25)) := pair_old hs2 Bpp.out
  replace Bpo : Hid (W2.heap[poB]? = some (.cells #[.slice o1 P2.name.length o2, .slice o3 P2.key.length o4, .slice o5 P2.value.length o6, .bool P2.gone] 25)) := pair_old hs2 Bpo.out
  replace HT : Hid (TensIs W2 (.slice fa f.length fc) f) := HT.out.grown hs2
  clear h
  go_upto_region 3 with fail
  rw [← HW2.out]
  obtain ⟨ttB, httB⟩ : ∃ ttB, ttB = w2.heap.size := ⟨_, rfl⟩
  rw [← httB] at Btt ⊢
  clear httB HW2 hs2 hA2 hg2
  obtain ⟨⟨ppc0, ppc1, ppc2, ppc3⟩, _⟩ := quad_room (grown_refl _ none) Bpp.out
  go_wp2_with fail
  refine (KP.out _ G0).mono ?_
  rintro e w3 ⟨q1, q2, q3, q4, q5, q6, rfl, h1, h2, h3, hg3⟩
  clear ppc0 ppc1 ppc2 ppc3
  obtain ⟨W3, HW3, hA3, Bqq⟩ := alloc_namedX w3 (.cells #[.slice q1 Q.name.length q2, .slice q3 Q.key.length q4, .bool Q.gone, .slice q5 Q.value.length q6] 35)
  have hs3 := grown_trans hg3 hA3
  have HQ1 : Hid (SliceIs W3 (.slice q1 Q.name.length q2) Q.name) := h1.grown hA3
  have HQ2 : Hid (SliceIs W3 (.slice q3 Q.key.length q4) Q.key) := h2.grown hA3
  have HQ3 : Hid (SliceIs W3 (.slice q5 Q.value.length q6) Q.value) := h3.grown hA3
  replace G0 : w.grownBy W3 none := grown_trans G0 hs3
  replace Bpp : Hid (W3.heap[ppB]? = some (.cells #[.slice p1 P.name.length p2, .slice p3 P.key.length p4, .slice p5 P.value.length p6, .bool P.gone] 25)) := pair_old hs3 Bpp.out
  replace Bpo : Hid (W3.heap[poB]? = some (.cells #[.slice o1 P2.name.length o2, .slice o3 P2.key.length o4, .slice o5 P2.value.length o6, .bool P2.gone] 25)) := pair_old hs3 Bpo.out
  replace Btt : Hid (W3.heap[ttB]? = some (.cells #[.int .i64 T.start, .slice t1 T.reads.length t2, .slice t3 T.writes.length t4] 31)) := pair_old hs3 Btt.out
  replace HT : Hid (TensIs W3 (.slice fa f.length fc) f) := HT.out.grown hs3
  replace HX : Hid (TxIs W3 (.agg #[.int .i64 T.start, .slice t1 T.reads.length t2, .slice t3 T.writes.length t4]) T) := HX.out.grown hs3
  clear h1 h2 h3
  go_upto_region 4 with fail
  rw [← HW3.out]
  obtain ⟨qqB, hqqB⟩ : ∃ qqB, qqB = w3.heap.size := ⟨_, rfl⟩
  rw [← hqqB] at Bqq ⊢
  clear hqqB HW3 hs3 hA3 hg3
  obtain ⟨⟨poc0, poc1, poc2, poc3⟩, _⟩ := quad_room (grown_refl _ none) Bpo.out
  go_wp2_with fail
  refine (KO.out _ G0).mono ?_
  rintro e w4 ⟨r1, r2, r3, r4, r5, r6, rfl, h1, h2, h3, hg4⟩
  clear poc0 poc1 poc2 poc3
  obtain ⟨W4, HW4, hA4, Boo⟩ := alloc_namedX w4 (.cells #[.slice r1 O.name.length r2, .slice r3 O.key.length r4, .bool O.gone, .slice r5 O.value.length r6] 35)
  have hs4 := grown_trans hg4 hA4
  have HO1 : Hid (SliceIs W4 (.slice r1 O.name.length r2) O.name) := h1.grown hA4
  have HO2 : Hid (SliceIs W4 (.slice r3 O.key.length r4) O.key) := h2.grown hA4
  replace G0 : w.grownBy W4 none := grown_trans G0 hs4
  replace Bpp : Hid (W4.heap[ppB]? = some (.cells #[.slice p1 P.name.length p2, .slice p3 P.key.length p4, .slice p5 P.value.length p6, .bool P.gone] 25)) := pair_old hs4 Bpp.out
  replace Bpo : Hid (W4.heap[poB]? = some (.cells #[.slice o1 P2.name.length o2, .slice o3 P2.key.length o4, .slice o5 P2.value.length o6, .bool P2.gone] 25)) := pair_old hs4 Bpo.out
  replace Btt : Hid (W4.heap[ttB]? = some (.cells #[.int .i64 T.start, .slice t1 T.reads.length t2, .slice t3 T.writes.length t4] 31)) := pair_old hs4 Btt.out
  replace Bqq : Hid (W4.heap[qqB]? = some (.cells #[.slice q1 Q.name.length q2, .slice q3 Q.key.length q4, .bool Q.gone, .slice q5 Q.value.length q6] 35)) := pair_old hs4 Bqq.out
  replace HT : Hid (TensIs W4 (.slice fa f.length fc) f) := HT.out.grown hs4
  replace HX : Hid (TxIs W4 (.agg #[.int .i64 T.start, .slice t1 T.reads.length t2, .slice t3 T.writes.length t4]) T) := HX.out.grown hs4
  replace HQ1 : Hid (SliceIs W4 (.slice q1 Q.name.length q2) Q.name) := HQ1.out.grown hs4
  replace HQ2 : Hid (SliceIs W4 (.slice q3 Q.key.length q4) Q.key) := HQ2.out.grown hs4
  replace HQ3 : Hid (SliceIs W4 (.slice q5 Q.value.length q6) Q.value) := HQ3.out.grown hs4
  clear h1 h2
  go_upto_region 5 with fail
  rw [← HW4.out]
  obtain ⟨ooB, hooB⟩ : ∃ ooB, ooB = w4.heap.size := ⟨_, rfl⟩
  rw [← hooB] at Boo ⊢
  clear hooB HW4 hs4 hA4 hg4
  obtain ⟨ttc0, ttc1, ttc2⟩ := trip_room (grown_refl _ none) Btt.out
  obtain ⟨⟨qqc0, qqc1, qqc2, qqc3⟩, _⟩ := quad_room (grown_refl _ none) Bqq.out
  go_wp2_with fail
  refine (TW.out _ _ _ HX.out ⟨_, _, _, rfl, HQ1.out, HQ2.out, HQ3.out⟩).mono ?_
  rintro e w5 ⟨s1, s2, s3, s4, rfl, h, hg5⟩
  clear ttc0 ttc1 ttc2 qqc0 qqc1 qqc2 qqc3
  obtain ⟨W5, HW5, hA5, Bt2⟩ := alloc_namedX w5 (.cells #[.int .i64 T2.start, .slice s1 T2.reads.length s2, .slice s3 T2.writes.length s4] 31)
  have hs5 := grown_trans hg5 hA5
  have HX2 : Hid (TxIs W5 (.agg #[.int .i64 T2.start, .slice s1 T2.reads.length s2, .slice s3 T2.writes.length s4]) T2) := h.grown hA5
  replace G0 : w.grownBy W5 none := grown_trans G0 hs5
  replace Bpp : Hid (W5.heap[ppB]? = some (.cells #[.slice p1 P.name.length p2, .slice p3 P.key.length p4, .slice p5 P.value.length p6, .bool P.gone] 25)) := pair_old hs5 Bpp.out
  replace Bpo : Hid (W5.heap[poB]? = some (.cells #[.slice o1 P2.name.length o2, .slice o3 P2.key.length o4, .slice o5 P2.value.length o6, .bool P2.gone] 25)) := pair_old hs5 Bpo.out
  replace Btt : Hid (W5.heap[ttB]? = some (.cells #[.int .i64 T.start, .slice t1 T.reads.length t2, .slice t3 T.writes.length t4] 31)) := pair_old hs5 Btt.out
  replace Bqq : Hid (W5.heap[qqB]? = some (.cells #[.slice q1 Q.name.length q2, .slice q3 Q.key.length q4, .bool Q.gone, .slice q5 Q.value.length q6] 35)) := pair_old hs5 Bqq.out
  replace Boo : Hid (W5.heap[ooB]? = some (.cells #[.slice r1 O.name.length r2, .slice r3 O.key.length r4, .bool O.gone, .slice r5 O.value.length r6] 35)) := pair_old hs5 Boo.out
  replace HT : Hid (TensIs W5 (.slice fa f.length fc) f) := HT.out.grown hs5
  replace HX : Hid (TxIs W5 (.agg #[.int .i64 T.start, .slice t1 T.reads.length t2, .slice t3 T.writes.length t4]) T) := HX.out.grown hs5
  replace HQ1 : Hid (SliceIs W5 (.slice q1 Q.name.length q2) Q.name) := HQ1.out.grown hs5
  replace HQ2 : Hid (SliceIs W5 (.slice q3 Q.key.length q4) Q.key) := HQ2.out.grown hs5
  replace HQ3 : Hid (SliceIs W5 (.slice q5 Q.value.length q6) Q.value) := HQ3.out.grown hs5
  replace HO1 : Hid (SliceIs W5 (.slice r1 O.name.length r2) O.name) := HO1.out.grown hs5
  replace HO2 : Hid (SliceIs W5 (.slice r3 O.key.length r4) O.key) := HO2.out.grown hs5
  clear h
  go_upto_region 6 with fail
  rw [← HW5.out]
  obtain ⟨t2B, ht2B⟩ : ∃ t2B, t2B = w5.heap.size := ⟨_, rfl⟩
  rw [← ht2B] at Bt2 ⊢
  clear ht2B HW5 hs5 hA5 hg5
  obtain ⟨t2c0, t2c1, t2c2⟩ := trip_room (grown_refl _ none) Bt2.out
  obtain ⟨⟨qqc0, qqc1, qqc2, qqc3⟩, _⟩ := quad_room (grown_refl _ none) Bqq.out
  go_wp2_with fail
  refine (LX.out _ _ _ _ _ HT.out HX2.out HQ1.out HQ2.out).mono ?_
  rintro e w6 ⟨x1, x2, rfl, h, hg6⟩
  clear t2c0 t2c1 t2c2 qqc0 qqc1 qqc2 qqc3
  obtain ⟨W6, HW6, hA6, Bxx⟩ := alloc_namedX w6 (.cells #[.bool (!Q.gone), .slice x1 Q.value.length x2] 41)
  have hs6 := grown_trans hg6 hA6
  have HVX : Hid (SliceIs W6 (.slice x1 Q.value.length x2) Q.value) := h.grown hA6
  replace G0 : w.grownBy W6 none := grown_trans G0 hs6
  replace Bpp : Hid (W6.heap[ppB]? = some (.cells #[.slice p1 P.name.length p2, .slice p3 P.key.length p4, .slice p5 P.value.length p6, .bool P.gone] 25)) := pair_old hs6 Bpp.out
  replace Bpo : Hid (W6.heap[poB]? = some (.cells #[.slice o1 P2.name.length o2, .slice o3 P2.key.length o4, .slice o5 P2.value.length o6, .bool P2.gone] 25)) := pair_old hs6 Bpo.out
  replace Btt : Hid (W6.heap[ttB]? = some (.cells #[.int .i64 T.start, .slice t1 T.reads.length t2, .slice t3 T.writes.length t4] 31)) := pair_old hs6 Btt.out
  replace Bqq : Hid (W6.heap[qqB]? = some (.cells #[.slice q1 Q.name.length q2, .slice q3 Q.key.length q4, .bool Q.gone, .slice q5 Q.value.length q6] 35)) := pair_old hs6 Bqq.out
  replace Boo : Hid (W6.heap[ooB]? = some (.cells #[.slice r1 O.name.length r2, .slice r3 O.key.length r4, .bool O.gone, .slice r5 O.value.length r6] 35)) := pair_old hs6 Boo.out
  replace Bt2 : Hid (W6.heap[t2B]? = some (.cells #[.int .i64 T2.start, .slice s1 T2.reads.length s2, .slice s3 T2.writes.length s4] 31)) := pair_old hs6 Bt2.out
  replace HT : Hid (TensIs W6 (.slice fa f.length fc) f) := HT.out.grown hs6
  replace HX : Hid (TxIs W6 (.agg #[.int .i64 T.start, .slice t1 T.reads.length t2, .slice t3 T.writes.length t4]) T) := HX.out.grown hs6
  replace HQ1 : Hid (SliceIs W6 (.slice q1 Q.name.length q2) Q.name) := HQ1.out.grown hs6
  replace HQ2 : Hid (SliceIs W6 (.slice q3 Q.key.length q4) Q.key) := HQ2.out.grown hs6
  replace HQ3 : Hid (SliceIs W6 (.slice q5 Q.value.length q6) Q.value) := HQ3.out.grown hs6
  replace HO1 : Hid (SliceIs W6 (.slice r1 O.name.length r2) O.name) := HO1.out.grown hs6
  replace HO2 : Hid (SliceIs W6 (.slice r3 O.key.length r4) O.key) := HO2.out.grown hs6
  replace HX2 : Hid (TxIs W6 (.agg #[.int .i64 T2.start, .slice s1 T2.reads.length s2, .slice s3 T2.writes.length s4]) T2) := HX2.out.grown hs6
  clear h
  go_upto_region 9 with fail
  rw [← HW6.out]
  obtain ⟨xxB, hxxB⟩ : ∃ xxB, xxB = w6.heap.size := ⟨_, rfl⟩
  rw [← hxxB] at Bxx ⊢
  clear hxxB HW6 hs6 hA6 hg6
  obtain ⟨t2c0, t2c1, t2c2⟩ := trip_room (grown_refl _ none) Bt2.out
  obtain ⟨⟨ooc0, ooc1, ooc2, ooc3⟩, _⟩ := quad_room (grown_refl _ none) Boo.out
  go_wp2_with fail
  refine (LY.out _ _ _ _ _ HT.out HX2.out HO1.out HO2.out).mono ?_
  rintro e w7 ⟨y1, y2, rfl, h, hg7⟩
  clear t2c0 t2c1 t2c2 ooc0 ooc1 ooc2 ooc3
  obtain ⟨W7, HW7, hA7, Byy⟩ := alloc_namedX w7 (.cells #[.bool YB, .slice y1 YV.length y2] 41)
  have hs7 := grown_trans hg7 hA7
  have HVY : Hid (SliceIs W7 (.slice y1 YV.length y2) YV) := h.grown hA7
  replace G0 : w.grownBy W7 none := grown_trans G0 hs7
  replace Bpp : Hid (W7.heap[ppB]? = some (.cells #[.slice p1 P.name.length p2, .slice p3 P.key.length p4, .slice p5 P.value.length p6, .bool P.gone] 25)) := pair_old hs7 Bpp.out
  replace Bpo : Hid (W7.heap[poB]? = some (.cells #[.slice o1 P2.name.length o2, .slice o3 P2.key.length o4, .slice o5 P2.value.length o6, .bool P2.gone] 25)) := pair_old hs7 Bpo.out
  replace Btt : Hid (W7.heap[ttB]? = some (.cells #[.int .i64 T.start, .slice t1 T.reads.length t2, .slice t3 T.writes.length t4] 31)) := pair_old hs7 Btt.out
  replace Bqq : Hid (W7.heap[qqB]? = some (.cells #[.slice q1 Q.name.length q2, .slice q3 Q.key.length q4, .bool Q.gone, .slice q5 Q.value.length q6] 35)) := pair_old hs7 Bqq.out
  replace Boo : Hid (W7.heap[ooB]? = some (.cells #[.slice r1 O.name.length r2, .slice r3 O.key.length r4, .bool O.gone, .slice r5 O.value.length r6] 35)) := pair_old hs7 Boo.out
  replace Bt2 : Hid (W7.heap[t2B]? = some (.cells #[.int .i64 T2.start, .slice s1 T2.reads.length s2, .slice s3 T2.writes.length s4] 31)) := pair_old hs7 Bt2.out
  replace Bxx : Hid (W7.heap[xxB]? = some (.cells #[.bool (!Q.gone), .slice x1 Q.value.length x2] 41)) := pair_old hs7 Bxx.out
  replace HT : Hid (TensIs W7 (.slice fa f.length fc) f) := HT.out.grown hs7
  replace HX : Hid (TxIs W7 (.agg #[.int .i64 T.start, .slice t1 T.reads.length t2, .slice t3 T.writes.length t4]) T) := HX.out.grown hs7
  replace HQ1 : Hid (SliceIs W7 (.slice q1 Q.name.length q2) Q.name) := HQ1.out.grown hs7
  replace HQ2 : Hid (SliceIs W7 (.slice q3 Q.key.length q4) Q.key) := HQ2.out.grown hs7
  replace HQ3 : Hid (SliceIs W7 (.slice q5 Q.value.length q6) Q.value) := HQ3.out.grown hs7
  replace HO1 : Hid (SliceIs W7 (.slice r1 O.name.length r2) O.name) := HO1.out.grown hs7
  replace HO2 : Hid (SliceIs W7 (.slice r3 O.key.length r4) O.key) := HO2.out.grown hs7
  replace HX2 : Hid (TxIs W7 (.agg #[.int .i64 T2.start, .slice s1 T2.reads.length s2, .slice s3 T2.writes.length s4]) T2) := HX2.out.grown hs7
  replace HVX : Hid (SliceIs W7 (.slice x1 Q.value.length x2) Q.value) := HVX.out.grown hs7
  clear h
  go_upto_region 10 with fail
  rw [← HW7.out]
  obtain ⟨yyB, hyyB⟩ : ∃ yyB, yyB = w7.heap.size := ⟨_, rfl⟩
  rw [← hyyB] at Byy ⊢
  clear hyyB HW7 hs7 hA7 hg7
  obtain ⟨ttc0, ttc1, ttc2⟩ := trip_room (grown_refl _ none) Btt.out
  obtain ⟨⟨ooc0, ooc1, ooc2, ooc3⟩, _⟩ := quad_room (grown_refl _ none) Boo.out
  go_wp2_with fail
  refine (LZ.out _ _ _ _ _ HT.out HX.out HO1.out HO2.out).mono ?_
  rintro e w8 ⟨z1, z2, rfl, h, hg8⟩
  clear ttc0 ttc1 ttc2 ooc0 ooc1 ooc2 ooc3
  obtain ⟨W8, HW8, hA8, Bzz⟩ := alloc_namedX w8 (.cells #[.bool ZB, .slice z1 ZV.length z2] 41)
  have hs8 := grown_trans hg8 hA8
  have HVZ : Hid (SliceIs W8 (.slice z1 ZV.length z2) ZV) := h.grown hA8
  replace G0 : w.grownBy W8 none := grown_trans G0 hs8
  replace Bpp : Hid (W8.heap[ppB]? = some (.cells #[.slice p1 P.name.length p2, .slice p3 P.key.length p4, .slice p5 P.value.length p6, .bool P.gone] 25)) := pair_old hs8 Bpp.out
  replace Bpo : Hid (W8.heap[poB]? = some (.cells #[.slice o1 P2.name.length o2, .slice o3 P2.key.length o4, .slice o5 P2.value.length o6, .bool P2.gone] 25)) := pair_old hs8 Bpo.out
  replace Btt : Hid (W8.heap[ttB]? = some (.cells #[.int .i64 T.start, .slice t1 T.reads.length t2, .slice t3 T.writes.length t4] 31)) := pair_old hs8 Btt.out
  replace Bqq : Hid (W8.heap[qqB]? = some (.cells #[.slice q1 Q.name.length q2, .slice q3 Q.key.length q4, .bool Q.gone, .slice q5 Q.value.length q6] 35)) := pair_old hs8 Bqq.out
  replace Boo : Hid (W8.heap[ooB]? = some (.cells #[.slice r1 O.name.length r2, .slice r3 O.key.length r4, .bool O.gone, .slice r5 O.value.length r6] 35)) := pair_old hs8 Boo.out
  replace Bt2 : Hid (W8.heap[t2B]? = some (.cells #[.int .i64 T2.start, .slice s1 T2.reads.length s2, .slice s3 T2.writes.length s4] 31)) := pair_old hs8 Bt2.out
  replace Bxx : Hid (W8.heap[xxB]? = some (.cells #[.bool (!Q.gone), .slice x1 Q.value.length x2] 41)) := pair_old hs8 Bxx.out
  replace Byy : Hid (W8.heap[yyB]? = some (.cells #[.bool YB, .slice y1 YV.length y2] 41)) := pair_old hs8 Byy.out
  replace HT : Hid (TensIs W8 (.slice fa f.length fc) f) := HT.out.grown hs8
  replace HX : Hid (TxIs W8 (.agg #[.int .i64 T.start, .slice t1 T.reads.length t2, .slice t3 T.writes.length t4]) T) := HX.out.grown hs8
  replace HQ1 : Hid (SliceIs W8 (.slice q1 Q.name.length q2) Q.name) := HQ1.out.grown hs8
  replace HQ2 : Hid (SliceIs W8 (.slice q3 Q.key.length q4) Q.key) := HQ2.out.grown hs8
  replace HQ3 : Hid (SliceIs W8 (.slice q5 Q.value.length q6) Q.value) := HQ3.out.grown hs8
  replace HO1 : Hid (SliceIs W8 (.slice r1 O.name.length r2) O.name) := HO1.out.grown hs8
  replace HO2 : Hid (SliceIs W8 (.slice r3 O.key.length r4) O.key) := HO2.out.grown hs8
  replace HX2 : Hid (TxIs W8 (.agg #[.int .i64 T2.start, .slice s1 T2.reads.length s2, .slice s3 T2.writes.length s4]) T2) := HX2.out.grown hs8
  replace HVX : Hid (SliceIs W8 (.slice x1 Q.value.length x2) Q.value) := HVX.out.grown hs8
  replace HVY : Hid (SliceIs W8 (.slice y1 YV.length y2) YV) := HVY.out.grown hs8
  clear h
  go_upto_region 11 with fail
  rw [← HW8.out]
  obtain ⟨zzB, hzzB⟩ : ∃ zzB, zzB = w8.heap.size := ⟨_, rfl⟩
  rw [← hzzB] at Bzz ⊢
  clear hzzB HW8 hs8 hA8 hg8
  have S1 : Hid (Calls Try.prog 14 #[.slice x1 Q.value.length x2, .slice q5 Q.value.length q6] W8 fun e w'' => e = .returned (.bool true) ∧ w'' = W8) := by
    have := SM.out W8 _ _ _ _ HVX.out HQ3.out
    rw [decide_eq_true rfl] at this
    exact this
  have S2 : Hid (Calls Try.prog 14 #[.slice q1 Q.name.length q2, .slice r1 O.name.length r2] W8 fun e w'' => e = .returned (.bool (decide (Q.name = O.name))) ∧ w'' = W8) := SM.out W8 _ _ _ _ HQ1.out HO1.out
  have S3 : Hid (Calls Try.prog 14 #[.slice q3 Q.key.length q4, .slice r3 O.key.length r4] W8 fun e w'' => e = .returned (.bool (decide (Q.key = O.key))) ∧ w'' = W8) := SM.out W8 _ _ _ _ HQ2.out HO2.out
  have HEN : Hid (decide (Q.name = O.name) = false → ¬ (Q.name = O.name ∧ Q.key = O.key)) := fun h e => by rw [decide_eq_true e.1] at h; cases h
  have HEK : Hid (decide (Q.key = O.key) = false → ¬ (Q.name = O.name ∧ Q.key = O.key)) := fun h e => by rw [decide_eq_true e.2] at h; cases h
  have S4 : Hid (YV = ZV → Calls Try.prog 14 #[.slice y1 YV.length y2, .slice z1 ZV.length z2] W8 fun e w'' => e = .returned (.bool true) ∧ w'' = W8) := fun h => by
    have := SM.out W8 _ _ _ _ HVY.out HVZ.out
    rw [decide_eq_true h] at this
    exact this
  have HN2 : Hid (¬ (Q.name = O.name ∧ Q.key = O.key) → YO = ZO ∧ YB = ZB ∧ YV = ZV) := HNE.out
  generalize decide (Q.name = O.name) = EN at *
  generalize decide (Q.key = O.key) = EK at *
  have hgg : ((!Q.gone) == Q.gone) = false := by cases Q.gone <;> rfl
  clear HT HX HQ1 HQ2 HQ3 HO1 HO2 HX2 HVX HVY HVZ SM HNE LX LY LZ TW KP KO KT HFO
  obtain ⟨xc0, xc1, _, _⟩ := pair_room (grown_refl _ none) Bxx.out
  obtain ⟨yc0, yc1, _, _⟩ := pair_room (grown_refl _ none) Byy.out
  obtain ⟨zc0, zc1, _, _⟩ := pair_room (grown_refl _ none) Bzz.out
  obtain ⟨⟨qc0, qc1, qc2, qc3⟩, _⟩ := quad_room (grown_refl _ none) Bqq.out
  obtain ⟨⟨oc0, oc1, oc2, oc3⟩, _⟩ := quad_room (grown_refl _ none) Boo.out
  obtain ⟨NG, hNG⟩ : ∃ NG, NG = !Q.gone := ⟨_, rfl⟩
  rw [← hNG] at hgg xc0
  clear hNG
  generalize Q.gone = QG at *
  generalize Q.name.length = n1 at *
  generalize Q.key.length = n2 at *
  generalize Q.value.length = n3 at *
  generalize O.name.length = n4 at *
  generalize O.key.length = n5 at *
  go_wp2_with fail
  refine S1.out.mono ?_
  rintro e w20 ⟨rfl, rfl⟩
  go_wp2_with fail
  refine S2.out.mono ?_
  rintro e w21 ⟨rfl, rfl⟩
  cases EN with
  | true =>
    go_wp2_with fail
    refine S3.out.mono ?_
    rintro e w22 ⟨rfl, rfl⟩
    cases EK with
    | true =>
      go_wp2
      go_ret
      exact ⟨rfl, G0⟩
    | false =>
      obtain ⟨e1, e2, e3⟩ := HN2.out (HEK.out rfl)
      have S5 := S4.out e3
      have HS5 : Hid (Calls Try.prog 14 #[.slice y1 YV.length y2, .slice z1 ZV.length z2] _ fun e w'' => e = .returned (.bool true) ∧ w'' = _) := S5
      have hb1 : (YB == ZB) = true := by rw [e2]; simp
      have hb2 : (YO == ZO) = true := by rw [e1]; simp
      clear S5 e1 e2 e3 S4 HN2 HEK HEN
      go_wp2_with fail
      refine HS5.out.mono ?_
      rintro e w23 ⟨rfl, rfl⟩
      go_wp2
      go_ret
      exact ⟨rfl, G0⟩
  | false =>
    obtain ⟨e1, e2, e3⟩ := HN2.out (HEN.out rfl)
    have S5 := S4.out e3
    have HS5 : Hid (Calls Try.prog 14 #[.slice y1 YV.length y2, .slice z1 ZV.length z2] _ fun e w'' => e = .returned (.bool true) ∧ w'' = _) := S5
    have hb1 : (YB == ZB) = true := by rw [e2]; simp
    have hb2 : (YO == ZO) = true := by rw [e1]; simp
    clear S5 e1 e2 e3 S4 HN2 HEK HEN
    go_wp2_with fail
    refine HS5.out.mono ?_
    rintro e w23 ⟨rfl, rfl⟩
    go_wp2
    go_ret
    exact ⟨rfl, G0⟩
end Go.Proofs.Ytpmfbfflacbmjab
