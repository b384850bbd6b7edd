/-
  The walk of canopykeep.WriteAgain, over what the code must keep.
-/
import Derived.Test.YtpmfbfflacbmjabKTxn
import Derived.Test.YtpmfbfflacbmjabKSame
import Derived.Test.YtpmfbfflacbmjabPart2
import Derived.Test.YtpmfbfflacbmjabKSameW
import Derived.Test.YtpmfbfflacbmjabSome
namespace Go.Proofs.Ytpmfbfflacbmjab
open Go.RowKit
theorem plc_fitsX {q : Plc} (h : writeE q = 0) : PlcFits q := by
  obtain ⟨h1, h2, h3⟩ := (writeE_iff _).1 h
  refine ⟨by omega, by omega, ?_⟩
  by_cases hg : q.gone = true
  · rw [if_pos hg] at h3; rw [h3]; simp
  · rw [if_neg hg] at h3; omega
set_option maxRecDepth 100000 in
set_option maxHeartbeats 4000000 in
theorem writeAgain_walk (hW : TxWriteOK) (hN : TxNoteOK) (hC : TxCheckOK) (w : World) (u p q : Value) (ws : List Plc) (P : Plc) (vb : List UInt8) (hs : PlacesIs w u ws) (hsl : FitsQ ws) (hP : PlaceIs w p P) (fP : PlcFits P) (hq : SliceIs w q vb) (hqm : vb.length ≤ maxLen) :
    Calls Try.prog 6 #[u, p, q] w fun e w' => e = .returned (.bool true) ∧ w.grownBy w' none := by
  obtain ⟨sa, sc, rfl⟩ := hs.shape
  obtain ⟨p1, p2, p3, p4, p5, p6, rfl⟩ := hP.cellsX
  obtain ⟨va, vc, rfl⟩ := hq.shape
  obtain ⟨hTO, hTs, hTw, _⟩ := txOf_ok ws []
  have hTr := txOf_reads ws
  have KT : Hid (∀ w', w.grownBy w' none → Calls Try.prog 10 #[.slice sa ws.length sc, .slice none 0 0] w' fun e w'' => ∃ t1 t2 t3 t4, e = .returned (.tuple #[.agg #[.int .i64 (txOf ws []).start, .slice t1 (txOf ws []).reads.length t2, .slice t3 (txOf ws []).writes.length t4], .bool true]) ∧ TxIs w'' (.agg #[.int .i64 (txOf ws []).start, .slice t1 (txOf ws []).reads.length t2, .slice t3 (txOf ws []).writes.length t4]) (txOf ws []) ∧ w'.grownBy w'' none) := fun w' hg => ktxn_any hW hN hC w' _ _ ws [] (hs.grown hg) hsl (places_nilX _) ⟨by simp, fun i hi => absurd hi (by simp)⟩
  generalize txOf ws [] = T at *
  have KP : Hid (∀ w', w.grownBy w' none → Calls Try.prog 11 #[.agg #[.slice p1 P.name.length p2, .slice p3 P.key.length p4, .slice p5 P.value.length p6, .bool P.gone]] w' fun e w'' => ∃ q1 q2 q3 q4 q5 q6, e = .returned (.agg #[.slice q1 (writeF P).name.length q2, .slice q3 (writeF P).key.length q4, .bool (writeF P).gone, .slice q5 (writeF P).value.length q6]) ∧ SliceIs w'' (.slice q1 (writeF P).name.length q2) (writeF P).name ∧ SliceIs w'' (.slice q3 (writeF P).key.length q4) (writeF P).key ∧ SliceIs w'' (.slice q5 (writeF P).value.length q6) (writeF P).value ∧ w'.grownBy w'' none) := fun w' hg => by
    refine (write_any w' _ P (hP.grown hg) fP).mono ?_
    rintro e w'' ⟨vn, vk, vv, rfl, h1, h2, h3, hg⟩
    obtain ⟨q1, q2, rfl⟩ := h1.shape
    obtain ⟨q3, q4, rfl⟩ := h2.shape
    obtain ⟨q5, q6, rfl⟩ := h3.shape
    exact ⟨q1, q2, q3, q4, q5, q6, rfl, (h1.part (base := 0)).slice, (h2.part (base := 0)).slice, (h3.part (base := 0)).slice, hg⟩
  have hQE := writeF_okX P
  generalize writeF P = Q at *
  obtain ⟨Qn, Qk, _⟩ := (writeE_iff Q).1 hQE
  have SO : Hid (∀ w', w.grownBy w' none → Calls Try.prog 22 #[.slice va vb.length vc, .int .i64 32] w' fun e w'' => ∃ v', e = .returned v' ∧ Own w'.heap.size w'' v' (vb.take 32) ∧ w'.grownBy w'' none) := fun w' hg => some_any w' _ vb 32 (by omega) (hq.grown hg) hqm
  have hV2 : (vb.take 32).length ≤ 32 := by rw [List.length_take]; omega
  generalize vb.take 32 = V2 at *
  have hUE : writeE ⟨Q.name, Q.key, V2, false⟩ = 0 := (writeE_iff _).2 ⟨Qn, Qk, by show if false = true then V2 = [] else V2.length ≤ 32; rw [if_neg (by decide)]; exact hV2⟩
  have hQU : plSame Q ⟨Q.name, Q.key, V2, false⟩ = true := (plSame_iff _ _).2 ⟨rfl, rfl⟩
  have hUQ : plSame (⟨Q.name, Q.key, V2, false⟩ : Plc) Q = true := (plSame_iff _ _).2 ⟨rfl, rfl⟩
  have hEA : twriteE T Q = 0 := by
    rw [write_ok hTO hQE]
    by_cases hh : hasW T.writes Q = true
    · rw [if_pos hh]
    · rw [if_neg hh, if_neg (by omega)]
  have hTA := write_tx hTO hQE hEA
  have wA := (twrite_writes hEA).1
  have hEB : twriteE (twriteT T Q) ⟨Q.name, Q.key, V2, false⟩ = 0 := by
    rw [write_ok hTA hUE, wA, if_pos (hasW_put _ _ _ hQU)]
  have hTB := write_tx hTA hUE hEB
  have wB := (twrite_writes hEB).1
  have hEC : twriteE (twriteT (twriteT T Q) ⟨Q.name, Q.key, V2, false⟩) Q = 0 := by
    rw [write_ok hTB hQE, wB, if_pos (hasW_put _ _ _ hUQ)]
  have wC := (twrite_writes hEC).1
  have HCA : Hid ((twriteT (twriteT (twriteT T Q) ⟨Q.name, Q.key, V2, false⟩) Q).writes = (twriteT T Q).writes) := by show _ = _; rw [wC, wB, wA, putW_again _ _ _ hQU]
  have HBA : Hid ((twriteT (twriteT T Q) ⟨Q.name, Q.key, V2, false⟩).writes.length = (twriteT T Q).writes.length) := by show _ = _; rw [wB, putW_len, wA, if_pos (hasW_put _ _ _ hQU)]
  have HAZ : Hid ((twriteT T Q).writes.length ≠ 0 ∧ (twriteT T Q).writes.length ≤ 10) := by
    refine ⟨?_, hTA.writes⟩
    rw [wA, putW_len]
    by_cases hh : hasW T.writes Q = true
    · rw [if_pos hh]
      intro e
      rw [List.eq_nil_of_length_eq_zero e] at hh
      simp [hasW] at hh
    · rw [if_neg hh]; omega
  have TWA : Hid (∀ w' x y, TxIs w' x T → WriteIs w' y Q → Calls Try.prog 12 #[x, y] w' fun e w'' => ∃ s1 s2 s3 s4, e = .returned (.tuple #[.agg #[.int .i64 (twriteT T Q).start, .slice s1 (twriteT T Q).reads.length s2, .slice s3 (twriteT T Q).writes.length s4], .int .i64 0]) ∧ TxIs w'' (.agg #[.int .i64 (twriteT T Q).start, .slice s1 (twriteT T Q).reads.length s2, .slice s3 (twriteT T Q).writes.length s4]) (twriteT T Q) ∧ w'.grownBy w'' none) := fun w' x y h1 h2 => by
    have := hW w' x y T Q h1 (txOK_fits hTO) h2 (plc_fitsX hQE)
    rw [hEA] at this
    refine this.mono ?_
    rintro e w'' ⟨z, rfl, hz, hg⟩
    obtain ⟨s1, s2, s3, s4, rfl⟩ := hz.agg
    exact ⟨s1, s2, s3, s4, rfl, hz, hg⟩
  have TWB : Hid (∀ w' x y, TxIs w' x (twriteT T Q) → WriteIs w' y ⟨Q.name, Q.key, V2, false⟩ → Calls Try.prog 12 #[x, y] w' fun e w'' => ∃ s1 s2 s3 s4, e = .returned (.tuple #[.agg #[.int .i64 (twriteT (twriteT T Q) ⟨Q.name, Q.key, V2, false⟩).start, .slice s1 (twriteT (twriteT T Q) ⟨Q.name, Q.key, V2, false⟩).reads.length s2, .slice s3 (twriteT (twriteT T Q) ⟨Q.name, Q.key, V2, false⟩).writes.length s4], .int .i64 0]) ∧ TxIs w'' (.agg #[.int .i64 (twriteT (twriteT T Q) ⟨Q.name, Q.key, V2, false⟩).start, .slice s1 (twriteT (twriteT T Q) ⟨Q.name, Q.key, V2, false⟩).reads.length s2, .slice s3 (twriteT (twriteT T Q) ⟨Q.name, Q.key, V2, false⟩).writes.length s4]) (twriteT (twriteT T Q) ⟨Q.name, Q.key, V2, false⟩) ∧ w'.grownBy w'' none) := fun w' x y h1 h2 => by
    have := hW w' x y (twriteT T Q) ⟨Q.name, Q.key, V2, false⟩ h1 (txOK_fits hTA) h2 (plc_fitsX hUE)
    rw [hEB] at this
    refine this.mono ?_
    rintro e w'' ⟨z, rfl, hz, hg⟩
    obtain ⟨s1, s2, s3, s4, rfl⟩ := hz.agg
    exact ⟨s1, s2, s3, s4, rfl, hz, hg⟩
  have TWC : Hid (∀ w' x y, TxIs w' x (twriteT (twriteT T Q) ⟨Q.name, Q.key, V2, false⟩) → WriteIs w' y Q → Calls Try.prog 12 #[x, y] w' fun e w'' => ∃ s1 s2 s3 s4, e = .returned (.tuple #[.agg #[.int .i64 (twriteT (twriteT (twriteT T Q) ⟨Q.name, Q.key, V2, false⟩) Q).start, .slice s1 (twriteT (twriteT (twriteT T Q) ⟨Q.name, Q.key, V2, false⟩) Q).reads.length s2, .slice s3 (twriteT (twriteT (twriteT T Q) ⟨Q.name, Q.key, V2, false⟩) Q).writes.length s4], .int .i64 0]) ∧ TxIs w'' (.agg #[.int .i64 (twriteT (twriteT (twriteT T Q) ⟨Q.name, Q.key, V2, false⟩) Q).start, .slice s1 (twriteT (twriteT (twriteT T Q) ⟨Q.name, Q.key, V2, false⟩) Q).reads.length s2, .slice s3 (twriteT (twriteT (twriteT T Q) ⟨Q.name, Q.key, V2, false⟩) Q).writes.length s4]) (twriteT (twriteT (twriteT T Q) ⟨Q.name, Q.key, V2, false⟩) Q) ∧ w'.grownBy w'' none) := fun w' x y h1 h2 => by
    have := hW w' x y (twriteT (twriteT T Q) ⟨Q.name, Q.key, V2, false⟩) Q h1 (txOK_fits hTB) h2 (plc_fitsX hQE)
    rw [hEC] at this
    refine this.mono ?_
    rintro e w'' ⟨z, rfl, hz, hg⟩
    obtain ⟨s1, s2, s3, s4, rfl⟩ := hz.agg
    exact ⟨s1, s2, s3, s4, rfl, hz, hg⟩
  generalize twriteT (twriteT (twriteT T Q) ⟨Q.name, Q.key, V2, false⟩) Q = TC at *
  generalize twriteT (twriteT T Q) ⟨Q.name, Q.key, V2, false⟩ = TB at *
  generalize twriteT T Q = TA at *
  have SW : Hid (∀ w' x y r, WriteIs w' x r → WriteIs w' y r → Calls Try.prog 23 #[x, y] w' fun e w'' => e = .returned (.bool true) ∧ w'.grownBy w'' none) := fun w' x y r h1 h2 => ksameWrite_same w' x y r h1 h2
  obtain ⟨W0, HX0, G0, Bpp⟩ := alloc_namedX w (.cells #[.slice p1 P.name.length p2, .slice p3 P.key.length p4, .slice p5 P.value.length p6, .bool P.gone] 25)
  clear hs hsl hP fP hq hqm hW hN hC hTO hTs hTw hTr hQE Qn Qk hV2 hUE hQU hUQ hEA hTA wA hEB hTB wB hEC wC
  go_enter Try.func6, Try.ntmps6
  go_upto_region 1 with fail
  rw [← HX0.out]
  obtain ⟨ppB, hppB⟩ : ∃ ppB, ppB = w.heap.size := ⟨_, rfl⟩
  rw [← hppB] at Bpp ⊢
  clear hppB HX0
  go_wp2_with fail
  refine (KT.out _ G0).mono ?_
  rintro e w1 ⟨t1, t2, t3, t4, rfl, h, hg1⟩
  obtain ⟨W1, HW1, hA1, Btt⟩ := alloc_namedX w1 (.cells #[.int .i64 T.start, .slice t1 T.reads.length t2, .slice t3 T.writes.length t4] 31)
  have hs1 := grown_trans hg1 hA1
  have HX : Hid (TxIs W1 (.agg #[.int .i64 T.start, .slice t1 T.reads.length t2, .slice t3 T.writes.length t4]) T) := h.grown hA1
  replace G0 : w.grownBy W1 none := grown_trans G0 hs1
  replace Bpp : Hid (W1.heap[ppB]? = some (.cells #[.slice p1 P.name.length p2, .slice p3 P.key.length p4, .slice p5 P.value.length p6, .bool P.gone] 25)) := pair_old hs1 Bpp.out
  clear h
  go_upto_region 2 with fail
  rw [← HW1.out]
  obtain ⟨ttB, httB⟩ : ∃ ttB, ttB = w1.heap.size := ⟨_, rfl⟩
  rw [← httB] at Btt ⊢
  clear httB HW1 hs1 hA1 hg1
  obtain ⟨⟨ppc0, ppc1, ppc2, ppc3⟩, _⟩ := quad_room (grown_refl _ none) Bpp.out
  go_wp2_with fail
  refine (KP.out _ G0).mono ?_
  rintro e w2 ⟨q1, q2, q3, q4, q5, q6, rfl, h1, h2, h3, hg2⟩
  clear ppc0 ppc1 ppc2 ppc3
  obtain ⟨W2, HW2, hA2, Bqq⟩ := alloc_namedX w2 (.cells #[.slice q1 Q.name.length q2, .slice q3 Q.key.length q4, .bool Q.gone, .slice q5 Q.value.length q6] 35)
  have hs2 := grown_trans hg2 hA2
  have HQ1 : Hid (SliceIs W2 (.slice q1 Q.name.length q2) Q.name) := h1.grown hA2
  have HQ2 : Hid (SliceIs W2 (.slice q3 Q.key.length q4) Q.key) := h2.grown hA2
  have HQ3 : Hid (SliceIs W2 (.slice q5 Q.value.length q6) Q.value) := h3.grown hA2
  replace G0 : w.grownBy W2 none := grown_trans G0 hs2
  replace Bpp : Hid (W2.heap[ppB]? = some (.cells #[.slice p1 P.name.length p2, .slice p3 P.key.length p4, .slice p5 P.value.length p6, .bool P.gone] 25)) := pair_old hs2 Bpp.out
  replace Btt : Hid (W2.heap[ttB]? = some (.cells #[.int .i64 T.start, .slice t1 T.reads.length t2, .slice t3 T.writes.length t4] 31)) := pair_old hs2 Btt.out
  replace HX : Hid (TxIs W2 (.agg #[.int .i64 T.start, .slice t1 T.reads.length t2, .slice t3 T.writes.length t4]) T) := HX.out.grown hs2
  clear h1 h2 h3
  go_upto_region 3 with fail
  rw [← HW2.out]
  obtain ⟨qqB, hqqB⟩ : ∃ qqB, qqB = w2.heap.size := ⟨_, rfl⟩
  rw [← hqqB] at Bqq ⊢
  clear hqqB HW2 hs2 hA2 hg2
  obtain ⟨ttc0, ttc1, ttc2⟩ := trip_room (grown_refl _ none) Btt.out
  obtain ⟨⟨qqc0, qqc1, qqc2, qqc3⟩, _⟩ := quad_room (grown_refl _ none) Bqq.out
  go_wp2_with fail
  refine (TWA.out _ _ _ HX.out ⟨_, _, _, rfl, HQ1.out, HQ2.out, HQ3.out⟩).mono ?_
  rintro e w3 ⟨a1, a2, a3, a4, rfl, h, hg3⟩
  clear ttc0 ttc1 ttc2 qqc0 qqc1 qqc2 qqc3
  obtain ⟨W3, HW3, hA3, Baa⟩ := alloc_namedX w3 (.cells #[.int .i64 TA.start, .slice a1 TA.reads.length a2, .slice a3 TA.writes.length a4] 31)
  have hs3 := grown_trans hg3 hA3
  have HA : Hid (TxIs W3 (.agg #[.int .i64 TA.start, .slice a1 TA.reads.length a2, .slice a3 TA.writes.length a4]) TA) := h.grown hA3
  replace G0 : w.grownBy W3 none := grown_trans G0 hs3
  replace Bpp : Hid (W3.heap[ppB]? = some (.cells #[.slice p1 P.name.length p2, .slice p3 P.key.length p4, .slice p5 P.value.length p6, .bool P.gone] 25)) := pair_old hs3 Bpp.out
  replace Btt : Hid (W3.heap[ttB]? = some (.cells #[.int .i64 T.start, .slice t1 T.reads.length t2, .slice t3 T.writes.length t4] 31)) := pair_old hs3 Btt.out
  replace Bqq : Hid (W3.heap[qqB]? = some (.cells #[.slice q1 Q.name.length q2, .slice q3 Q.key.length q4, .bool Q.gone, .slice q5 Q.value.length q6] 35)) := pair_old hs3 Bqq.out
  replace HX : Hid (TxIs W3 (.agg #[.int .i64 T.start, .slice t1 T.reads.length t2, .slice t3 T.writes.length t4]) T) := HX.out.grown hs3
  replace HQ1 : Hid (SliceIs W3 (.slice q1 Q.name.length q2) Q.name) := HQ1.out.grown hs3
  replace HQ2 : Hid (SliceIs W3 (.slice q3 Q.key.length q4) Q.key) := HQ2.out.grown hs3
  replace HQ3 : Hid (SliceIs W3 (.slice q5 Q.value.length q6) Q.value) := HQ3.out.grown hs3
  clear h
  go_upto_region 4 with fail
  rw [← HW3.out]
  obtain ⟨aaB, haaB⟩ : ∃ aaB, aaB = w3.heap.size := ⟨_, rfl⟩
  rw [← haaB] at Baa ⊢
  clear haaB HW3 hs3 hA3 hg3
  obtain ⟨WU, HWU, hAU, BU⟩ := alloc_namedX W3 (.cells #[.slice q1 Q.name.length q2, .slice q3 Q.key.length q4, .bool Q.gone, .slice q5 Q.value.length q6] 35)
  obtain ⟨⟨qqc0, qqc1, qqc2, qqc3⟩, _⟩ := quad_room (grown_refl _ none) Bqq.out
  go_upto_region 5 with fail
  rw [← HWU.out]
  obtain ⟨uuB, huuB⟩ : ∃ uuB, uuB = W3.heap.size := ⟨_, rfl⟩
  have huL : W3.heap.size ≤ uuB := by omega
  rw [← huuB] at BU ⊢
  clear huuB HWU qqc0 qqc1 qqc2 qqc3
  obtain ⟨⟨uc0, uc1, uc2, uc3⟩, uf0, uf1, uf2, uf3, _⟩ := quad_room (grown_refl WU none) BU.out
  obtain ⟨WV, hWV⟩ : ∃ WV, WV = WU.setCell ⟨uuB, 2, none⟩ (.bool false) := ⟨_, rfl⟩
  have BV : Hid (WV.heap[uuB]? = some (.cells #[.slice q1 Q.name.length q2, .slice q3 Q.key.length q4, .bool false, .slice q5 Q.value.length q6] 35)) := by show _ = _; rw [hWV]; exact set_self BU.out
  have hgV : W3.grownBy WV none := by rw [hWV]; exact grown_setNew hAU uuB huL _ _
  have HWV : Hid (WV = WU.setCell ⟨uuB, 2, none⟩ (.bool false)) := hWV
  clear hWV
  go_upto_region 6 with fail
  rw [← HWV.out]
  clear uc0 uc1 uc2 uc3 uf0 uf1 uf2 uf3 HWV BU hAU
  go_wp2_with fail
  refine (SO.out _ (grown_trans G0 hgV)).mono ?_
  rintro e w30 ⟨v30, rfl, ho30, hg30⟩
  obtain ⟨v1, v2, rfl⟩ := ho30.shape
  have hb30 := pair_old hg30 BV.out
  obtain ⟨⟨uc0, uc1, uc2, uc3⟩, uf0, uf1, uf2, uf3, _⟩ := quad_room (grown_refl w30 none) hb30
  obtain ⟨WY, hWY⟩ : ∃ WY, WY = w30.setCell ⟨uuB, 3, none⟩ (.slice v1 V2.length v2) := ⟨_, rfl⟩
  have Buu : Hid (WY.heap[uuB]? = some (.cells #[.slice q1 Q.name.length q2, .slice q3 Q.key.length q4, .bool false, .slice v1 V2.length v2] 35)) := by show _ = _; rw [hWY]; exact set_self hb30
  have hgY : W3.grownBy WY none := by rw [hWY]; exact grown_setNew (grown_trans hgV hg30) uuB huL _ _
  have HVV : Hid (SliceIs WY (.slice v1 V2.length v2) V2) := by show SliceIs _ _ _; rw [hWY]; exact ((ho30.setBlk hb30 write_type _ _).part (base := 0)).slice
  have HWY : Hid (WY = w30.setCell ⟨uuB, 3, none⟩ (.slice v1 V2.length v2)) := hWY
  clear hWY ho30
  go_upto_region 7 with fail
  rw [← HWY.out]
  replace G0 : w.grownBy WY none := grown_trans G0 hgY
  replace Bpp : Hid (WY.heap[ppB]? = some (.cells #[.slice p1 P.name.length p2, .slice p3 P.key.length p4, .slice p5 P.value.length p6, .bool P.gone] 25)) := pair_old hgY Bpp.out
  replace Btt : Hid (WY.heap[ttB]? = some (.cells #[.int .i64 T.start, .slice t1 T.reads.length t2, .slice t3 T.writes.length t4] 31)) := pair_old hgY Btt.out
  replace Bqq : Hid (WY.heap[qqB]? = some (.cells #[.slice q1 Q.name.length q2, .slice q3 Q.key.length q4, .bool Q.gone, .slice q5 Q.value.length q6] 35)) := pair_old hgY Bqq.out
  replace Baa : Hid (WY.heap[aaB]? = some (.cells #[.int .i64 TA.start, .slice a1 TA.reads.length a2, .slice a3 TA.writes.length a4] 31)) := pair_old hgY Baa.out
  replace HX : Hid (TxIs WY (.agg #[.int .i64 T.start, .slice t1 T.reads.length t2, .slice t3 T.writes.length t4]) T) := HX.out.grown hgY
  replace HQ1 : Hid (SliceIs WY (.slice q1 Q.name.length q2) Q.name) := HQ1.out.grown hgY
  replace HQ2 : Hid (SliceIs WY (.slice q3 Q.key.length q4) Q.key) := HQ2.out.grown hgY
  replace HQ3 : Hid (SliceIs WY (.slice q5 Q.value.length q6) Q.value) := HQ3.out.grown hgY
  replace HA : Hid (TxIs WY (.agg #[.int .i64 TA.start, .slice a1 TA.reads.length a2, .slice a3 TA.writes.length a4]) TA) := HA.out.grown hgY
  clear uc0 uc1 uc2 uc3 uf0 uf1 uf2 uf3 HWY hb30 hg30 BV hgV hgY
  obtain ⟨aac0, aac1, aac2⟩ := trip_room (grown_refl _ none) Baa.out
  obtain ⟨⟨uuc0, uuc1, uuc2, uuc3⟩, _⟩ := quad_room (grown_refl _ none) Buu.out
  go_wp2_with fail
  refine (TWB.out _ _ _ HA.out ⟨_, _, _, rfl, HQ1.out, HQ2.out, HVV.out⟩).mono ?_
  rintro e w4 ⟨b1, b2, b3, b4, rfl, h, hg4⟩
  clear aac0 aac1 aac2 uuc0 uuc1 uuc2 uuc3
  obtain ⟨W4, HW4, hA4, Bbb⟩ := alloc_namedX w4 (.cells #[.int .i64 TB.start, .slice b1 TB.reads.length b2, .slice b3 TB.writes.length b4] 31)
  have hs4 := grown_trans hg4 hA4
  have HB : Hid (TxIs W4 (.agg #[.int .i64 TB.start, .slice b1 TB.reads.length b2, .slice b3 TB.writes.length b4]) TB) := h.grown hA4
  replace G0 : w.grownBy W4 none := grown_trans G0 hs4
  replace Bpp : Hid (W4.heap[ppB]? = some (.cells #[.slice p1 P.name.length p2, .slice p3 P.key.length p4, .slice p5 P.value.length p6, .bool P.gone] 25)) := pair_old hs4 Bpp.out
  replace Btt : Hid (W4.heap[ttB]? = some (.cells #[.int .i64 T.start, .slice t1 T.reads.length t2, .slice t3 T.writes.length t4] 31)) := pair_old hs4 Btt.out
  replace Bqq : Hid (W4.heap[qqB]? = some (.cells #[.slice q1 Q.name.length q2, .slice q3 Q.key.length q4, .bool Q.gone, .slice q5 Q.value.length q6] 35)) := pair_old hs4 Bqq.out
  replace Baa : Hid (W4.heap[aaB]? = some (.cells #[.int .i64 TA.start, .slice a1 TA.reads.length a2, .slice a3 TA.writes.length a4] 31)) := pair_old hs4 Baa.out
  replace Buu : Hid (W4.heap[uuB]? = some (.cells #[.slice q1 Q.name.length q2, .slice q3 Q.key.length q4, .bool false, .slice v1 V2.length v2] 35)) := pair_old hs4 Buu.out
  replace HX : Hid (TxIs W4 (.agg #[.int .i64 T.start, .slice t1 T.reads.length t2, .slice t3 T.writes.length t4]) T) := HX.out.grown hs4
  replace HQ1 : Hid (SliceIs W4 (.slice q1 Q.name.length q2) Q.name) := HQ1.out.grown hs4
  replace HQ2 : Hid (SliceIs W4 (.slice q3 Q.key.length q4) Q.key) := HQ2.out.grown hs4
  replace HQ3 : Hid (SliceIs W4 (.slice q5 Q.value.length q6) Q.value) := HQ3.out.grown hs4
  replace HA : Hid (TxIs W4 (.agg #[.int .i64 TA.start, .slice a1 TA.reads.length a2, .slice a3 TA.writes.length a4]) TA) := HA.out.grown hs4
  replace HVV : Hid (SliceIs W4 (.slice v1 V2.length v2) V2) := HVV.out.grown hs4
  clear h
  go_upto_region 8 with fail
  rw [← HW4.out]
  obtain ⟨bbB, hbbB⟩ : ∃ bbB, bbB = w4.heap.size := ⟨_, rfl⟩
  rw [← hbbB] at Bbb ⊢
  clear hbbB HW4 hs4 hA4 hg4
  obtain ⟨bbc0, bbc1, bbc2⟩ := trip_room (grown_refl _ none) Bbb.out
  obtain ⟨⟨qqc0, qqc1, qqc2, qqc3⟩, _⟩ := quad_room (grown_refl _ none) Bqq.out
  go_wp2_with fail
  refine (TWC.out _ _ _ HB.out ⟨_, _, _, rfl, HQ1.out, HQ2.out, HQ3.out⟩).mono ?_
  rintro e w5 ⟨c1, c2, c3, c4, rfl, h, hg5⟩
  clear bbc0 bbc1 bbc2 qqc0 qqc1 qqc2 qqc3
  obtain ⟨W5, HW5, hA5, Bcc⟩ := alloc_namedX w5 (.cells #[.int .i64 TC.start, .slice c1 TC.reads.length c2, .slice c3 TC.writes.length c4] 31)
  have hs5 := grown_trans hg5 hA5
  have HC : Hid (TxIs W5 (.agg #[.int .i64 TC.start, .slice c1 TC.reads.length c2, .slice c3 TC.writes.length c4]) TC) := h.grown hA5
  replace G0 : w.grownBy W5 none := grown_trans G0 hs5
  replace Bpp : Hid (W5.heap[ppB]? = some (.cells #[.slice p1 P.name.length p2, .slice p3 P.key.length p4, .slice p5 P.value.length p6, .bool P.gone] 25)) := pair_old hs5 Bpp.out
  replace Btt : Hid (W5.heap[ttB]? = some (.cells #[.int .i64 T.start, .slice t1 T.reads.length t2, .slice t3 T.writes.length t4] 31)) := pair_old hs5 Btt.out
  replace Bqq : Hid (W5.heap[qqB]? = some (.cells #[.slice q1 Q.name.length q2, .slice q3 Q.key.length q4, .bool Q.gone, .slice q5 Q.value.length q6] 35)) := pair_old hs5 Bqq.out
  replace Baa : Hid (W5.heap[aaB]? = some (.cells #[.int .i64 TA.start, .slice a1 TA.reads.length a2, .slice a3 TA.writes.length a4] 31)) := pair_old hs5 Baa.out
  replace Buu : Hid (W5.heap[uuB]? = some (.cells #[.slice q1 Q.name.length q2, .slice q3 Q.key.length q4, .bool false, .slice v1 V2.length v2] 35)) := pair_old hs5 Buu.out
  replace Bbb : Hid (W5.heap[bbB]? = some (.cells #[.int .i64 TB.start, .slice b1 TB.reads.length b2, .slice b3 TB.writes.length b4] 31)) := pair_old hs5 Bbb.out
  replace HX : Hid (TxIs W5 (.agg #[.int .i64 T.start, .slice t1 T.reads.length t2, .slice t3 T.writes.length t4]) T) := HX.out.grown hs5
  replace HQ1 : Hid (SliceIs W5 (.slice q1 Q.name.length q2) Q.name) := HQ1.out.grown hs5
  replace HQ2 : Hid (SliceIs W5 (.slice q3 Q.key.length q4) Q.key) := HQ2.out.grown hs5
  replace HQ3 : Hid (SliceIs W5 (.slice q5 Q.value.length q6) Q.value) := HQ3.out.grown hs5
  replace HA : Hid (TxIs W5 (.agg #[.int .i64 TA.start, .slice a1 TA.reads.length a2, .slice a3 TA.writes.length a4]) TA) := HA.out.grown hs5
  replace HVV : Hid (SliceIs W5 (.slice v1 V2.length v2) V2) := HVV.out.grown hs5
  replace HB : Hid (TxIs W5 (.agg #[.int .i64 TB.start, .slice b1 TB.reads.length b2, .slice b3 TB.writes.length b4]) TB) := HB.out.grown hs5
  clear h
  go_upto_region 9 with fail
  rw [← HW5.out]
  obtain ⟨ccB, hccB⟩ : ∃ ccB, ccB = w5.heap.size := ⟨_, rfl⟩
  rw [← hccB] at Bcc ⊢
  clear hccB HW5 hs5 hA5 hg5
  have HWA : Hid (WritesIs W5 (.slice a3 TA.writes.length a4) TA.writes) := HA.out.parts.2.2
  have HWC : Hid (WritesIs W5 (.slice c3 TC.writes.length c4) TC.writes) := HC.out.parts.2.2
  clear HA HB HC HX HQ1 HQ2 HQ3 HVV KT KP SO TWA TWB TWC Bpp Btt Bqq Buu
  rw [HCA.out] at HWC Bcc
  rw [HBA.out] at Bbb
  have hz0 := HAZ.out.1
  have hz10 := HAZ.out.2
  obtain ⟨WX, hWX⟩ : ∃ WX, WX = W5 := ⟨_, rfl⟩
  rw [← hWX] at HWA HWC G0 Baa Bbb Bcc ⊢
  clear hWX HCA HBA HAZ
  generalize TA.writes = VV at *
  have ez : ((VV.length : Int) == 0) = false := by simpa using hz0
  have en : ((VV.length : Int) != (VV.length : Int)) = false := by simp
  obtain ⟨ac0, ac1, ac2⟩ := trip_room (grown_refl WX none) Baa.out
  obtain ⟨bc0, bc1, bc2⟩ := trip_room (grown_refl WX none) Bbb.out
  obtain ⟨cc0, cc1, cc2⟩ := trip_room (grown_refl WX none) Bcc.out
  go_wp2_with fail
  clear ac0 ac1 ac2 bc0 bc1 bc2 cc0 cc1 cc2 ez en
  go_loopw [17] (fun s17 wr => ∃ i : Nat, s17 = .int .i64 (i : Int) ∧ i ≤ VV.length ∧ WX.grownBy wr none) (fun s17 _ => VV.length - (intOf s17).toNat)
  case atStart => exact ⟨0, rfl, by omega, grown_refl _ _⟩
  case round =>
    obtain ⟨i, rfl, hi, hg⟩ := hrel
    obtain ⟨ac0, ac1, ac2⟩ := trip_room hg Baa.out
    obtain ⟨cc0, cc1, cc2⟩ := trip_room hg Bcc.out
    by_cases hlt : i < VV.length
    · have i1 : (i : Int) < (VV.length : Int) := by omega
      obtain ⟨b, o, rfl, y1, y2, y3, y4, y5, y6, ⟨x1w, x2w, x3w, x4w⟩, hrd⟩ := writes_cells HWA.out i hlt
      obtain ⟨b2, o2, rfl, d1, d2, d3, d4, d5, d6, ⟨u1w, u2w, u3w, u4w⟩, hrd2⟩ := writes_cells HWC.out i hlt
      have SS : Hid (∀ w', WX.grownBy w' none → Calls Try.prog 23 #[.agg #[.slice y1 (VV.getD i noPlc).name.length y2, .slice y3 (VV.getD i noPlc).key.length y4, .bool (VV.getD i noPlc).gone, .slice y5 (VV.getD i noPlc).value.length y6], .agg #[.slice d1 (VV.getD i noPlc).name.length d2, .slice d3 (VV.getD i noPlc).key.length d4, .bool (VV.getD i noPlc).gone, .slice d5 (VV.getD i noPlc).value.length d6]] w' fun e w'' => e = .returned (.bool true) ∧ w'.grownBy w'' none) := fun w' h => SW.out w' _ _ _ (hrd.grown h) (hrd2.grown h)
      generalize VV.getD i noPlc = PP at *
      clear hrd hrd2
      go_wp2_with fail
      have hgd := grown_drew (grown_refl wr none)
      have hgX := grown_trans hg hgd
      have e0 := hgd.cell ac2 (by simp)
      have e1 := hgd.cell cc2 (by simp)
      have e2 := hgX.cell x1w (by simp)
      have e3 := hgX.cell x2w (by simp)
      have e4 := hgX.cell x3w (by simp)
      have e5 := hgX.cell x4w (by simp)
      have f2 := hgX.cell u1w (by simp)
      have f3 := hgX.cell u2w (by simp)
      have f4 := hgX.cell u3w (by simp)
      have f5 := hgX.cell u4w (by simp)
      clear x1w x2w x3w x4w u1w u2w u3w u4w
      go_region_held3 (fun w' => w'.cell? ⟨aaB, 2, none⟩ = some (.slice (some ⟨b, o, none⟩) VV.length a4) ∧ w'.cell? ⟨ccB, 2, none⟩ = some (.slice (some ⟨b2, o2, none⟩) VV.length c4) ∧ w'.cell? ⟨b, o + i * 4, none⟩ = some (.slice y1 PP.name.length y2) ∧ w'.cell? ⟨b, o + i * 4 + 1, none⟩ = some (.slice y3 PP.key.length y4) ∧ w'.cell? ⟨b, o + i * 4 + 2, none⟩ = some (.bool PP.gone) ∧ w'.cell? ⟨b, o + i * 4 + 3, none⟩ = some (.slice y5 PP.value.length y6) ∧ w'.cell? ⟨b2, o2 + i * 4, none⟩ = some (.slice d1 PP.name.length d2) ∧ w'.cell? ⟨b2, o2 + i * 4 + 1, none⟩ = some (.slice d3 PP.key.length d4) ∧ w'.cell? ⟨b2, o2 + i * 4 + 2, none⟩ = some (.bool PP.gone) ∧ w'.cell? ⟨b2, o2 + i * 4 + 3, none⟩ = some (.slice d5 PP.value.length d6))
        (first | with_reducible exact ⟨e0, e1, e2, e3, e4, e5, f2, f3, f4, f5⟩ | exact ⟨hg4.cell e0 (by simp), hg4.cell e1 (by simp), hg4.cell e2 (by simp), hg4.cell e3 (by simp), hg4.cell e4 (by simp), hg4.cell e5 (by simp), hg4.cell f2 (by simp), hg4.cell f3 (by simp), hg4.cell f4 (by simp), hg4.cell f5 (by simp)⟩)
        (first
          | (go_at_call 23; refine (SS.out _ hgX).mono ?_; rintro e w4 ⟨rfl, hg4⟩))
      have hgw4 := grown_trans hgX hg4
      clear e0 e1 e2 e3 e4 e5 f2 f3 f4 f5 ac0 ac1 ac2 cc0 cc1 cc2 SS
      go_wp2_with fail
      go_roundw
      case rel =>
        first
          | exact ⟨i + 1, by go_num, by omega, hgw4⟩
          | ((repeat apply Exists.intro); refine ⟨⟨i + 1, ?_, by omega, hgw4⟩, rfl⟩; go_num)
      case measure => simp [intOf]; omega
    · obtain rfl : i = VV.length := by omega
      have i1 : ¬ (VV.length : Int) < (VV.length : Int) := by omega
      go_wp2
      go_ret
      exact ⟨rfl, grown_trans G0 hg⟩
end Go.Proofs.Ytpmfbfflacbmjab
