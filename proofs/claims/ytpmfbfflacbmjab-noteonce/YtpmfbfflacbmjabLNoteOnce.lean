/-
  The walk of canopykeep.NoteOnce, over what the code must keep.
-/
import Derived.Test.YtpmfbfflacbmjabKTxn
import Derived.Test.YtpmfbfflacbmjabKSame
import Derived.Test.YtpmfbfflacbmjabPart2
namespace Go.Proofs.Ytpmfbfflacbmjab
open Go.RowKit
theorem note_len {t : Tx} {r : Rd} (he : noteE t r = 0) : (noteT t r).reads.length = t.reads.length + (if hasR t r = true then 0 else 1) ∧ hasR (noteT t r) r = true := by
  rw [noteT, if_pos he]
  by_cases hh : hasR t r = true
  · rw [if_pos hh, if_pos hh]; exact ⟨rfl, hh⟩
  · rw [if_neg hh, if_neg hh]
    refine ⟨by simp, ?_⟩
    rw [hasR_iff]; simp
set_option maxRecDepth 100000 in
set_option maxHeartbeats 4000000 in
theorem noteOnce_walk (hW : TxWriteOK) (hN : TxNoteOK) (hC : TxCheckOK) (w : World) (u p : Value) (rs : List Plc) (P : Plc) (hs : PlacesIs w u rs) (hsl : FitsQ rs) (hP : PlaceIs w p P) (fP : PlcFits P) :
    Calls Try.prog 7 #[u, p] w fun e w' => e = .returned (.bool true) ∧ w.grownBy w' none := by
  obtain ⟨sa, sc, rfl⟩ := hs.shape
  obtain ⟨p1, p2, p3, p4, p5, p6, rfl⟩ := hP.cellsX
  obtain ⟨hTO, hTs, _, hTr⟩ := txOf_ok [] rs
  have KT : Hid (∀ w', w.grownBy w' none → Calls Try.prog 10 #[.slice none 0 0, .slice sa rs.length sc] w' fun e w'' => ∃ t1 t2 t3 t4, e = .returned (.tuple #[.agg #[.int .i64 (txOf [] rs).start, .slice t1 (txOf [] rs).reads.length t2, .slice t3 (txOf [] rs).writes.length t4], .bool true]) ∧ TxIs w'' (.agg #[.int .i64 (txOf [] rs).start, .slice t1 (txOf [] rs).reads.length t2, .slice t3 (txOf [] rs).writes.length t4]) (txOf [] rs) ∧ w'.grownBy w'' none) := fun w' hg => ktxn_any hW hN hC w' _ _ [] rs (places_nilX _) ⟨by simp, fun i hi => absurd hi (by simp)⟩ (hs.grown hg) hsl
  have KP : Hid (∀ w', w.grownBy w' none → Calls Try.prog 24 #[.agg #[.slice p1 P.name.length p2, .slice p3 P.key.length p4, .slice p5 P.value.length p6, .bool P.gone]] w' fun e w'' => ∃ n1 n2 n3 n4 n5 n6, e = .returned (.agg #[.slice n1 (readF P).name.length n2, .slice n3 (readF P).key.length n4, .bool (readF P).wide, .slice n5 (readF P).last.length n6]) ∧ ReadIs w'' (.agg #[.slice n1 (readF P).name.length n2, .slice n3 (readF P).key.length n4, .bool (readF P).wide, .slice n5 (readF P).last.length n6]) (readF P) ∧ w'.grownBy w'' none) := fun w' hg => by
    refine (kread_any w' _ P (hP.grown hg) fP).mono ?_
    rintro e w'' ⟨vn, vk, vv, rfl, h1, h2, h3, hg⟩
    obtain ⟨n1, n2, rfl⟩ := h1.shape
    obtain ⟨n3, n4, rfl⟩ := h2.shape
    obtain ⟨n5, n6, rfl⟩ := h3.shape
    exact ⟨n1, n2, n3, n4, n5, n6, rfl, ⟨_, _, _, rfl, (h1.part (base := 0)).slice, (h2.part (base := 0)).slice, (h3.part (base := 0)).slice⟩, hg⟩
  have hRE := readF_ok P
  generalize readF P = R at *
  generalize txOf [] rs = T at *
  obtain ⟨hE1, hT1⟩ := txN_step (t := T) (u := T) (i := 0) ⟨hTO, Nat.le_refl _, rfl, rfl⟩ (by omega) hRE
  have hf1 := hT1.few
  obtain ⟨hE2, hT2⟩ := txN_step (t := T) hT1 (by omega) hRE
  obtain ⟨hL1, hH1⟩ := note_len hE1
  obtain ⟨hL2, hH2⟩ := note_len hE2
  rw [hH1, if_pos rfl, Nat.add_zero] at hL2
  have NA : Hid (∀ w' x y, TxIs w' x T → ReadIs w' y R → Calls Try.prog 25 #[x, y] w' fun e w'' => ∃ s1 s2 s3 s4, e = .returned (.tuple #[.agg #[.int .i64 (noteT T R).start, .slice s1 (noteT T R).reads.length s2, .slice s3 (noteT T R).writes.length s4], .int .i64 0]) ∧ TxIs w'' (.agg #[.int .i64 (noteT T R).start, .slice s1 (noteT T R).reads.length s2, .slice s3 (noteT T R).writes.length s4]) (noteT T R) ∧ w'.grownBy w'' none) := fun w' x y h1 h2 => by
    have := hN w' x y T R h1 (txOK_fits hTO) h2 (read_fits hRE)
    rw [hE1] at this
    refine this.mono ?_
    rintro e w'' ⟨z, rfl, hz, hg⟩
    obtain ⟨s1, s2, s3, s4, rfl⟩ := hz.agg
    exact ⟨s1, s2, s3, s4, rfl, hz, hg⟩
  have NB : Hid (∀ w' x y, TxIs w' x (noteT T R) → ReadIs w' y R → Calls Try.prog 25 #[x, y] w' fun e w'' => ∃ s1 s2 s3 s4, e = .returned (.tuple #[.agg #[.int .i64 (noteT (noteT T R) R).start, .slice s1 (noteT (noteT T R) R).reads.length s2, .slice s3 (noteT (noteT T R) R).writes.length s4], .int .i64 0]) ∧ TxIs w'' (.agg #[.int .i64 (noteT (noteT T R) R).start, .slice s1 (noteT (noteT T R) R).reads.length s2, .slice s3 (noteT (noteT T R) R).writes.length s4]) (noteT (noteT T R) R) ∧ w'.grownBy w'' none) := fun w' x y h1 h2 => by
    have := hN w' x y (noteT T R) R h1 (txOK_fits hT1.ok) h2 (read_fits hRE)
    rw [hE2] at this
    refine this.mono ?_
    rintro e w'' ⟨z, rfl, hz, hg⟩
    obtain ⟨s1, s2, s3, s4, rfl⟩ := hz.agg
    exact ⟨s1, s2, s3, s4, rfl, hz, hg⟩
  have HL1 : Hid ((noteT T R).reads.length = T.reads.length + (if T.reads.any (fun q => rdSame q R) = true then 0 else 1)) := hL1
  have HL2 : Hid ((noteT (noteT T R) R).reads.length = (noteT T R).reads.length) := hL2
  generalize noteT (noteT T R) R = TB at *
  generalize noteT T R = TA at *
  have SM : Hid (∀ w' x y a b, SliceIs w' x a → SliceIs w' y b → Calls Try.prog 14 #[x, y] w' fun e w'' => e = .returned (.bool (decide (a = b))) ∧ w'' = w') := fun w' x y a b h1 h2 => same_any w' x y a b h1 h2
  obtain ⟨W0, HX0, G0, Bpp⟩ := alloc_namedX w (.cells #[.slice p1 P.name.length p2, .slice p3 P.key.length p4, .slice p5 P.value.length p6, .bool P.gone] 25)
  clear hs hsl hP fP hW hN hC hTO hTs hE1 hE2 hT1 hT2 hf1 hL1 hL2 hH1 hH2 hRE
  go_enter Try.func7, Try.ntmps7
  go_upto_region 1 with fail
  rw [← HX0.out]
  obtain ⟨ppB, hppB⟩ : ∃ ppB, ppB = w.heap.size := ⟨_, rfl⟩
  rw [← hppB] at Bpp ⊢
  clear hppB HX0
  go_wp2_with fail
  refine (KT.out _ G0).mono ?_
  rintro e w1 ⟨t1, t2, t3, t4, rfl, h, hg1⟩
  obtain ⟨W1, HW1, hA1, Btt⟩ := alloc_namedX w1 (.cells #[.int .i64 T.start, .slice t1 T.reads.length t2, .slice t3 T.writes.length t4] 31)
  have hs1 := grown_trans hg1 hA1
  have HX : Hid (TxIs W1 (.agg #[.int .i64 T.start, .slice t1 T.reads.length t2, .slice t3 T.writes.length t4]) T) := h.grown hA1
  replace G0 : w.grownBy W1 none := grown_trans G0 hs1
  replace Bpp : Hid (W1.heap[ppB]? = some (.cells #[.slice p1 P.name.length p2, .slice p3 P.key.length p4, .slice p5 P.value.length p6, .bool P.gone] 25)) := pair_old hs1 Bpp.out
  clear h
  go_upto_region 2 with fail
  rw [← HW1.out]
  obtain ⟨ttB, httB⟩ : ∃ ttB, ttB = w1.heap.size := ⟨_, rfl⟩
  rw [← httB] at Btt ⊢
  clear httB HW1 hs1 hA1 hg1
  obtain ⟨⟨ppc0, ppc1, ppc2, ppc3⟩, _⟩ := quad_room (grown_refl _ none) Bpp.out
  go_wp2_with fail
  refine (KP.out _ G0).mono ?_
  rintro e w2 ⟨r1, r2, r3, r4, r5, r6, rfl, h, hg2⟩
  clear ppc0 ppc1 ppc2 ppc3
  obtain ⟨W2, HW2, hA2, Brr⟩ := alloc_namedX w2 (.cells #[.slice r1 R.name.length r2, .slice r3 R.key.length r4, .bool R.wide, .slice r5 R.last.length r6] 63)
  have hs2 := grown_trans hg2 hA2
  have HR : Hid (ReadIs W2 (.agg #[.slice r1 R.name.length r2, .slice r3 R.key.length r4, .bool R.wide, .slice r5 R.last.length r6]) R) := h.grown hA2
  replace G0 : w.grownBy W2 none := grown_trans G0 hs2
  replace Bpp : Hid (W2.heap[ppB]? = some (.cells #[.slice p1 P.name.length p2, .slice p3 P.key.length p4, .slice p5 P.value.length p6, .bool P.gone] 25)) := pair_old hs2 Bpp.out
  replace Btt : Hid (W2.heap[ttB]? = some (.cells #[.int .i64 T.start, .slice t1 T.reads.length t2, .slice t3 T.writes.length t4] 31)) := pair_old hs2 Btt.out
  replace HX : Hid (TxIs W2 (.agg #[.int .i64 T.start, .slice t1 T.reads.length t2, .slice t3 T.writes.length t4]) T) := HX.out.grown hs2
  clear h
  go_upto_region 3 with fail
  rw [← HW2.out]
  obtain ⟨rrB, hrrB⟩ : ∃ rrB, rrB = w2.heap.size := ⟨_, rfl⟩
  rw [← hrrB] at Brr ⊢
  clear hrrB HW2 hs2 hA2 hg2
  obtain ⟨ttc0, ttc1, ttc2⟩ := trip_room (grown_refl _ none) Btt.out
  obtain ⟨⟨rrc0, rrc1, rrc2, rrc3⟩, _⟩ := quad_room (grown_refl _ none) Brr.out
  go_wp2_with fail
  refine (NA.out _ _ _ HX.out HR.out).mono ?_
  rintro e w3 ⟨a1, a2, a3, a4, rfl, h, hg3⟩
  clear ttc0 ttc1 ttc2 rrc0 rrc1 rrc2 rrc3
  obtain ⟨W3, HW3, hA3, Baa⟩ := alloc_namedX w3 (.cells #[.int .i64 TA.start, .slice a1 TA.reads.length a2, .slice a3 TA.writes.length a4] 31)
  have hs3 := grown_trans hg3 hA3
  have HA : Hid (TxIs W3 (.agg #[.int .i64 TA.start, .slice a1 TA.reads.length a2, .slice a3 TA.writes.length a4]) TA) := h.grown hA3
  replace G0 : w.grownBy W3 none := grown_trans G0 hs3
  replace Bpp : Hid (W3.heap[ppB]? = some (.cells #[.slice p1 P.name.length p2, .slice p3 P.key.length p4, .slice p5 P.value.length p6, .bool P.gone] 25)) := pair_old hs3 Bpp.out
  replace Btt : Hid (W3.heap[ttB]? = some (.cells #[.int .i64 T.start, .slice t1 T.reads.length t2, .slice t3 T.writes.length t4] 31)) := pair_old hs3 Btt.out
  replace Brr : Hid (W3.heap[rrB]? = some (.cells #[.slice r1 R.name.length r2, .slice r3 R.key.length r4, .bool R.wide, .slice r5 R.last.length r6] 63)) := pair_old hs3 Brr.out
  replace HX : Hid (TxIs W3 (.agg #[.int .i64 T.start, .slice t1 T.reads.length t2, .slice t3 T.writes.length t4]) T) := HX.out.grown hs3
  replace HR : Hid (ReadIs W3 (.agg #[.slice r1 R.name.length r2, .slice r3 R.key.length r4, .bool R.wide, .slice r5 R.last.length r6]) R) := HR.out.grown hs3
  clear h
  go_upto_region 4 with fail
  rw [← HW3.out]
  obtain ⟨aaB, haaB⟩ : ∃ aaB, aaB = w3.heap.size := ⟨_, rfl⟩
  rw [← haaB] at Baa ⊢
  clear haaB HW3 hs3 hA3 hg3
  obtain ⟨aac0, aac1, aac2⟩ := trip_room (grown_refl _ none) Baa.out
  obtain ⟨⟨rrc0, rrc1, rrc2, rrc3⟩, _⟩ := quad_room (grown_refl _ none) Brr.out
  go_wp2_with fail
  refine (NB.out _ _ _ HA.out HR.out).mono ?_
  rintro e w4 ⟨b1, b2, b3, b4, rfl, _, hg4⟩
  clear aac0 aac1 aac2 rrc0 rrc1 rrc2 rrc3
  obtain ⟨W4, HW4, hA4, Bbb⟩ := alloc_namedX w4 (.cells #[.int .i64 TB.start, .slice b1 TB.reads.length b2, .slice b3 TB.writes.length b4] 31)
  have hs4 := grown_trans hg4 hA4
  replace G0 : w.grownBy W4 none := grown_trans G0 hs4
  replace Bpp : Hid (W4.heap[ppB]? = some (.cells #[.slice p1 P.name.length p2, .slice p3 P.key.length p4, .slice p5 P.value.length p6, .bool P.gone] 25)) := pair_old hs4 Bpp.out
  replace Btt : Hid (W4.heap[ttB]? = some (.cells #[.int .i64 T.start, .slice t1 T.reads.length t2, .slice t3 T.writes.length t4] 31)) := pair_old hs4 Btt.out
  replace Brr : Hid (W4.heap[rrB]? = some (.cells #[.slice r1 R.name.length r2, .slice r3 R.key.length r4, .bool R.wide, .slice r5 R.last.length r6] 63)) := pair_old hs4 Brr.out
  replace Baa : Hid (W4.heap[aaB]? = some (.cells #[.int .i64 TA.start, .slice a1 TA.reads.length a2, .slice a3 TA.writes.length a4] 31)) := pair_old hs4 Baa.out
  replace HX : Hid (TxIs W4 (.agg #[.int .i64 T.start, .slice t1 T.reads.length t2, .slice t3 T.writes.length t4]) T) := HX.out.grown hs4
  replace HR : Hid (ReadIs W4 (.agg #[.slice r1 R.name.length r2, .slice r3 R.key.length r4, .bool R.wide, .slice r5 R.last.length r6]) R) := HR.out.grown hs4
  replace HA : Hid (TxIs W4 (.agg #[.int .i64 TA.start, .slice a1 TA.reads.length a2, .slice a3 TA.writes.length a4]) TA) := HA.out.grown hs4
  go_upto_region 5 with fail
  rw [← HW4.out]
  obtain ⟨bbB, hbbB⟩ : ∃ bbB, bbB = w4.heap.size := ⟨_, rfl⟩
  rw [← hbbB] at Bbb ⊢
  clear hbbB HW4 hs4 hA4 hg4
  have HRS : Hid (ReadsIs W4 (.slice t1 T.reads.length t2) T.reads) := HX.out.parts.2.1
  clear HA KT KP NA NB Bpp
  obtain ⟨WX, hWX⟩ : ∃ WX, WX = W4 := ⟨_, rfl⟩
  rw [← hWX] at HRS HR HX G0 Btt Brr Baa Bbb ⊢
  clear hWX
  go_wp2_with fail
  go_loopw [12, 13, 14] (fun s12 s13 _ wr => ∃ i : Nat, s13 = .int .i64 (i : Int) ∧ i ≤ T.reads.length ∧ s12 = .bool ((T.reads.take i).any (fun q => rdSame q R)) ∧ WX.grownBy wr none) (fun _ s13 _ _ => T.reads.length - (intOf s13).toNat)
  case atStart => exact ⟨0, rfl, by omega, by simp, grown_refl _ _⟩
  case round =>
    obtain ⟨i, rfl, hi, rfl, hg⟩ := hrel
    obtain ⟨ttc0, ttc1, ttc2⟩ := trip_room hg Btt.out
    by_cases hlt : i < T.reads.length
    · have i1 : (i : Int) < (T.reads.length : Int) := by omega
      obtain ⟨b, o, rfl, y1, y2, y3, y4, y5, y6, ⟨x1w, x2w, x3w, x4w⟩, hrd⟩ := reads_cells HRS.out i hlt
      have z1 := hg.cell x1w (by simp)
      have z2 := hg.cell x2w (by simp)
      have z3 := hg.cell x3w (by simp)
      have z4 := hg.cell x4w (by simp)
      obtain ⟨W5, HW5, hg5, B5⟩ := alloc_namedX wr (.cells #[.slice y1 (T.reads.getD i noRd).name.length y2, .slice y3 (T.reads.getD i noRd).key.length y4, .bool (T.reads.getD i noRd).wide, .slice y5 (T.reads.getD i noRd).last.length y6] 63)
      have hg25 := grown_trans hg hg5
      obtain ⟨v1, v2, _, v3⟩ := (hrd.grown hg25).parts
      obtain ⟨u1, u2, _, u3⟩ := (HR.out.grown hg25).parts
      have S1 : Hid (Calls Try.prog 14 #[.slice y1 (T.reads.getD i noRd).name.length y2, .slice r1 R.name.length r2] W5 fun e w'' => e = .returned (.bool (decide ((T.reads.getD i noRd).name = R.name))) ∧ w'' = W5) := SM.out W5 _ _ _ _ v1 u1
      have S2 : Hid (Calls Try.prog 14 #[.slice y3 (T.reads.getD i noRd).key.length y4, .slice r3 R.key.length r4] W5 fun e w'' => e = .returned (.bool (decide ((T.reads.getD i noRd).key = R.key))) ∧ w'' = W5) := SM.out W5 _ _ _ _ v2 u2
      have S3 : Hid (Calls Try.prog 14 #[.slice y5 (T.reads.getD i noRd).last.length y6, .slice r5 R.last.length r6] W5 fun e w'' => e = .returned (.bool (decide ((T.reads.getD i noRd).last = R.last))) ∧ w'' = W5) := SM.out W5 _ _ _ _ v3 u3
      have HS : Hid (rdSame (T.reads.getD i noRd) R = ((T.reads.getD i noRd).wide == R.wide && (decide ((T.reads.getD i noRd).name = R.name) && (decide ((T.reads.getD i noRd).key = R.key) && decide ((T.reads.getD i noRd).last = R.last))))) := rfl
      have HA1 : Hid ((T.reads.take (i + 1)).any (fun q => rdSame q R) = ((T.reads.take i).any (fun q => rdSame q R) || rdSame (T.reads.getD i noRd) R)) := any_takeS noRd (fun q => rdSame q R) T.reads i hlt
      obtain ⟨⟨q0, q1, q2, q3⟩, _⟩ := quad_room (grown_refl W5 none) B5.out
      obtain ⟨⟨rc0, rc1, rc2, rc3⟩, _⟩ := quad_room hg25 Brr.out
      obtain ⟨B0, hB0⟩ : ∃ B0, B0 = (T.reads.take i).any (fun q => rdSame q R) := ⟨_, rfl⟩
      obtain ⟨B1, hB1⟩ : ∃ B1, B1 = (T.reads.take (i + 1)).any (fun q => rdSame q R) := ⟨_, rfl⟩
      rw [← hB0] at HA1 ⊢
      rw [← hB1] at HA1
      have HB1 : Hid (B1 = (T.reads.take (i + 1)).any (fun q => rdSame q R)) := hB1
      clear hrd x1w x2w x3w x4w v1 v2 v3 u1 u2 u3 hB0 hB1
      generalize rdSame (T.reads.getD i noRd) R = RS at *
      generalize decide ((T.reads.getD i noRd).name = R.name) = EN at *
      generalize decide ((T.reads.getD i noRd).key = R.key) = EK at *
      generalize decide ((T.reads.getD i noRd).last = R.last) = EL at *
      generalize (T.reads.getD i noRd).name.length = n1 at *
      generalize (T.reads.getD i noRd).key.length = n2 at *
      generalize (T.reads.getD i noRd).last.length = n3 at *
      obtain ⟨WE, hWE⟩ : ∃ WE, WE = ((T.reads.getD i noRd).wide == R.wide) := ⟨_, rfl⟩
      rw [← hWE] at HS
      generalize (T.reads.getD i noRd).wide = ww at *
      generalize R.wide = wr2 at *
      go_upto_region 10 with fail
      rw [← HW5.out]
      obtain ⟨YB, hYB⟩ : ∃ YB, YB = wr.heap.size := ⟨_, rfl⟩
      rw [← hYB] at q0 q1 q2 q3 ⊢
      clear hYB z1 z2 z3 z4 ttc0 ttc1 ttc2 B5 HW5
      cases B0 with
      | true =>
        have HN : Hid (true = B1) := by show _ = _; rw [HA1.out]; rfl
        clear HA1 HS S1 S2 S3
        go_wp2_with fail
        go_roundw
        case rel =>
          first
            | exact ⟨i + 1, by go_num, by omega, by rw [HN.out, HB1.out], hg25⟩
            | ((repeat apply Exists.intro); refine ⟨⟨i + 1, ?_, by omega, by rw [HN.out, HB1.out], hg25⟩, rfl⟩; go_num)
        case measure => simp [intOf]; omega
      | false =>
        have HN : Hid (RS = B1) := by show _ = _; rw [HA1.out]; rfl
        clear HA1
        cases hww : WE with
        | false =>
          have hw2 : (ww == wr2) = false := by rw [← hWE, hww]
          have HN2 : Hid (false = B1) := by show _ = _; rw [← HN.out, HS.out, hww]; rfl
          clear HS HN S1 S2 S3
          go_wp2_with fail
          go_roundw
          case rel =>
            first
              | exact ⟨i + 1, by go_num, by omega, by rw [HN2.out, HB1.out], hg25⟩
              | ((repeat apply Exists.intro); refine ⟨⟨i + 1, ?_, by omega, by rw [HN2.out, HB1.out], hg25⟩, rfl⟩; go_num)
          case measure => simp [intOf]; omega
        | true =>
          have hw2 : (ww == wr2) = true := by rw [← hWE, hww]
          cases EN with
          | false =>
            have HN2 : Hid (false = B1) := by show _ = _; rw [← HN.out, HS.out, hww]; rfl
            clear HS HN
            go_wp2_with fail
            refine S1.out.mono ?_
            rintro e w6 ⟨rfl, rfl⟩
            go_wp2_with fail
            go_roundw
            case rel =>
              first
                | exact ⟨i + 1, by go_num, by omega, by rw [HN2.out, HB1.out], hg25⟩
                | ((repeat apply Exists.intro); refine ⟨⟨i + 1, ?_, by omega, by rw [HN2.out, HB1.out], hg25⟩, rfl⟩; go_num)
            case measure => simp [intOf]; omega
          | true => cases EK with
            | false =>
              have HN2 : Hid (false = B1) := by show _ = _; rw [← HN.out, HS.out, hww]; rfl
              clear HS HN
              go_wp2_with fail
              refine S1.out.mono ?_
              rintro e w6 ⟨rfl, rfl⟩
              go_wp2_with fail
              refine S2.out.mono ?_
              rintro e w6 ⟨rfl, rfl⟩
              go_wp2_with fail
              go_roundw
              case rel =>
                first
                  | exact ⟨i + 1, by go_num, by omega, by rw [HN2.out, HB1.out], hg25⟩
                  | ((repeat apply Exists.intro); refine ⟨⟨i + 1, ?_, by omega, by rw [HN2.out, HB1.out], hg25⟩, rfl⟩; go_num)
              case measure => simp [intOf]; omega
            | true =>
              have HN2 : Hid (EL = B1) := by show _ = _; rw [← HN.out, HS.out, hww]; rfl
              clear HS HN
              go_wp2_with fail
              refine S1.out.mono ?_
              rintro e w6 ⟨rfl, rfl⟩
              go_wp2_with fail
              refine S2.out.mono ?_
              rintro e w6 ⟨rfl, rfl⟩
              go_wp2_with fail
              refine S3.out.mono ?_
              rintro e w6 ⟨rfl, rfl⟩
              go_wp2_with fail
              go_roundw
              case rel =>
                first
                  | exact ⟨i + 1, by go_num, by omega, by rw [HN2.out, HB1.out], hg25⟩
                  | ((repeat apply Exists.intro); refine ⟨⟨i + 1, ?_, by omega, by rw [HN2.out, HB1.out], hg25⟩, rfl⟩; go_num)
              case measure => simp [intOf]; omega
    · obtain rfl : i = T.reads.length := by omega
      have i1 : ¬ (T.reads.length : Int) < (T.reads.length : Int) := by omega
      rw [List.take_length]
      obtain ⟨aac0, aac1, aac2⟩ := trip_room hg Baa.out
      obtain ⟨bbc0, bbc1, bbc2⟩ := trip_room hg Bbb.out
      generalize T.reads.any (fun q => rdSame q R) = BA at *
      cases BA with
      | true =>
        have hl1 : TA.reads.length = T.reads.length := by rw [HL1.out]; rfl
        have hl2 : TB.reads.length = T.reads.length := by rw [HL2.out, hl1]
        have e1 : ((TA.reads.length : Int) == (T.reads.length : Int)) = true := by rw [hl1]; simp
        have e2 : ((TB.reads.length : Int) == (T.reads.length : Int)) = true := by rw [hl2]; simp
        clear HL1 HL2 hl1 hl2
        go_wp2
        go_ret
        exact ⟨rfl, grown_trans G0 hg⟩
      | false =>
        have hl1 : TA.reads.length = T.reads.length + 1 := by rw [HL1.out]; rfl
        have hl2 : TB.reads.length = T.reads.length + 1 := by rw [HL2.out, hl1]
        have e1 : ((TA.reads.length : Int) == (T.reads.length : Int) + 1) = true := by rw [hl1]; simp
        have e2 : ((TB.reads.length : Int) == (T.reads.length : Int) + 1) = true := by rw [hl2]; simp
        have hw1 : IntKind.i64.wrap ((T.reads.length : Int) + 1) = (T.reads.length : Int) + 1 := by rw [IntKind.wrap_i64]; omega
        clear HL1 HL2 hl1 hl2
        go_wp2
        go_ret
        exact ⟨rfl, grown_trans G0 hg⟩
end Go.Proofs.Ytpmfbfflacbmjab
