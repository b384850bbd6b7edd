/-
  The walk of canopykeep.ClashSeen, over what the code must keep.
-/
import Derived.Test.YtpmfbfflacbmjacKTxn
import Derived.Test.YtpmfbfflacbmjacKSame
import Derived.Test.YtpmfbfflacbmjacPart5
import Derived.Test.YtpmfbfflacbmjacKCommits
import Derived.Test.YtpmfbfflacbmjacPicked
import Derived.Test.YtpmfbfflacbmjacPart10
import Derived.Test.YtpmfbfflacbmjacPart2
import Derived.Test.YtpmfbfflacbmjacKPairs
namespace Go.Proofs.Ytpmfbfflacbmjac
open Go.RowKit
set_option maxRecDepth 100000 in
set_option maxHeartbeats 4000000 in
theorem clashSeen_walk (hF : FApplyNewOK) (hW : TxWriteOK) (hN : TxNoteOK) (hC : TxCheckOK) (hCl : TxClashOK) (hFo : HsFoldOK) (hG : FGetOK) (hR : FRangeOK) (w : World) (v u : Value) (l rs : List Plc) (n : Int) (hv : PlacesIs w v l) (hl : FitsQ l) (hs : PlacesIs w u rs) (hsl : FitsQ rs) (hn0 : -9223372036854775808 ≤ n) (hn1 : n ≤ 9223372036854775807) :
    Calls Try.prog 3 #[v, u, .int .i64 n] w fun e w' => e = .returned (.bool true) ∧ w.grownBy w' none := by
  obtain ⟨la, lc, rfl⟩ := hv.shape
  obtain ⟨sa, sc, rfl⟩ := hs.shape
  have KC : Hid (∀ w', w.grownBy w' none → Calls Try.prog 6 #[.slice la l.length lc, .int .i64 16] w' fun e w'' => ∃ ca cc cs, e = .returned (.slice ca cs.length cc) ∧ CommitsIs w'' (.slice ca cs.length cc) cs ∧ Goes [] 0 cs ∧ cs.length ≤ 16 ∧ w'.grownBy w'' none) := fun w' hg => by
    refine (kcommits_any hF w' _ l 16 (hv.grown hg) hl (by omega)).mono ?_
    rintro e w'' ⟨v', rfl, cs, h1, ⟨f, hco⟩, hg1⟩
    have hlen : ((l.take 16).map writeF).length ≤ 16 := by simp; omega
    have hcl : cs.length ≤ 16 := by have := hco.few; omega
    obtain ⟨ca, cc, rfl⟩ := h1.shape
    exact ⟨ca, cc, cs, rfl, h1, (cmts_histX hco (by omega)).1, hcl, hg1⟩
  obtain ⟨hTO, hTs, _, hTr⟩ := txOf_ok [] rs
  have KT : Hid (∀ w', w.grownBy w' none → Calls Try.prog 7 #[.slice none 0 0, .slice sa rs.length sc] w' fun e w'' => ∃ t1 t2 t3 t4, e = .returned (.tuple #[.agg #[.int .i64 (txOf [] rs).start, .slice t1 (txOf [] rs).reads.length t2, .slice t3 (txOf [] rs).writes.length t4], .bool true]) ∧ TxIs w'' (.agg #[.int .i64 (txOf [] rs).start, .slice t1 (txOf [] rs).reads.length t2, .slice t3 (txOf [] rs).writes.length t4]) (txOf [] rs) ∧ w'.grownBy w'' none) := fun w' hg => ktxn_any hW hN hC w' _ _ [] rs (places_nilX _) ⟨by simp, fun i hi => absurd hi (by simp)⟩ (hs.grown hg) hsl
  generalize txOf [] rs = T at *
  have CL : Hid (∀ w' x y t l, TxIs w' x t → TxOK t → CommitsIs w' y l → FitsCs l → Calls Try.prog 9 #[x, y] w' fun e w'' => e = .returned (.tuple #[.bool (clashL t l), .int .i64 0]) ∧ w'.grownBy w'' none) := fun w' x y t l h1 h2 h3 h4 => by
    have := hCl w' x y t l h1 (txOK_fits h2) h3 h4
    obtain ⟨e1, e2⟩ := clash_okX h2 l
    rw [e1, e2] at this
    exact this
  have PK : Hid (∀ (w' : World) (m : Nat), m ≤ 16 → Calls Try.prog 8 #[.int .i64 n, .int .i64 ((m : Int) + 1)] w' fun e w'' => ∃ k : Nat, e = .returned (.int .i64 (k : Int)) ∧ k ≤ m ∧ w'' = w') := fun w' m hm => by
    refine (picked_any n _ w' hn0 hn1 (by omega) (by omega)).mono ?_
    rintro e w'' ⟨k, rfl, hk, rfl⟩
    exact ⟨k, rfl, by omega, rfl⟩
  have HFO : Hid HsFoldOK := hFo
  have HG : Hid FGetOK := hG
  have HR : Hid FRangeOK := hR
  have HTO : Hid (TxOK T) := hTO
  have hBR : readE ⟨[1], [2], false, []⟩ = 0 := bare_read (by simp) (by simp)
  obtain ⟨hSE, hST⟩ := sure_note hBR
  have NS : Hid (∀ w' x y, TxIs w' x noTx → ReadIs w' y ⟨[1], [2], false, []⟩ → Calls Try.prog 15 #[x, y] w' fun e w'' => ∃ s1 s2 s3 s4, e = .returned (.tuple #[.agg #[.int .i64 (noteT noTx ⟨[1], [2], false, []⟩).start, .slice s1 (noteT noTx ⟨[1], [2], false, []⟩).reads.length s2, .slice s3 (noteT noTx ⟨[1], [2], false, []⟩).writes.length s4], .int .i64 0]) ∧ TxIs w'' (.agg #[.int .i64 (noteT noTx ⟨[1], [2], false, []⟩).start, .slice s1 (noteT noTx ⟨[1], [2], false, []⟩).reads.length s2, .slice s3 (noteT noTx ⟨[1], [2], false, []⟩).writes.length s4]) (noteT noTx ⟨[1], [2], false, []⟩) ∧ w'.grownBy w'' none) := fun w' x y h1 h2 => by
    have := hN w' x y noTx ⟨[1], [2], false, []⟩ h1 (txOK_fits tx_none) h2 (read_fits hBR)
    rw [hSE] at this
    refine this.mono ?_
    rintro e w'' ⟨z, rfl, hz, hg⟩
    obtain ⟨s1, s2, s3, s4, rfl⟩ := hz.agg
    exact ⟨s1, s2, s3, s4, rfl, hz, hg⟩
  have HSO : Hid (TxOK (noteT noTx ⟨[1], [2], false, []⟩)) := note_tx tx_none hBR hSE
  have HSC : Hid (clashL (noteT noTx ⟨[1], [2], false, []⟩) [⟨1, [⟨[1], [2], [], false⟩]⟩] = true) := by show _ = _; rw [hST]; exact sure_clash rfl rfl
  generalize noteT noTx ⟨[1], [2], false, []⟩ = TS at *
  have HQF : Hid (FitsCs [⟨1, [⟨[1], [2], [], false⟩]⟩]) := fits_sure ((writeE_iff _).2 ⟨by simp, by simp, by simp⟩)
  have SM : Hid (∀ w' x y a, SliceIs w' x a → SliceIs w' y a → Calls Try.prog 14 #[x, y] w' fun e w'' => e = .returned (.bool true) ∧ w'' = w') := fun w' x y a h1 h2 => by
    have := same_any w' x y a a h1 h2
    rw [decide_eq_true rfl] at this
    exact this
  have G0 : w.grownBy w none := grown_refl _ _
  clear hs hsl hv hl hF hW hN hC hCl hTO hTs hBR hSE hST hn0 hn1 hFo hG hR
  go_enter Try.func3, Try.ntmps3
  go_wp2_with fail
  refine (KC.out _ G0).mono ?_
  rintro e w1 ⟨ca, cc, cs, rfl, hC1, hgo, hcl, hg1⟩
  have HGO : Hid (Goes [] 0 cs) := hgo
  have HFT : Hid (FitsCs cs) := goes_fitsX hgo (by omega)
  have HC : Hid (CommitsIs w1 (.slice ca cs.length cc) cs) := hC1
  replace G0 : w.grownBy w1 none := grown_trans G0 hg1
  clear hgo hC1 hg1 KC
  go_wp2_with fail
  refine (KT.out _ G0).mono ?_
  rintro e w2 ⟨t1, t2, t3, t4, rfl, h, hg2⟩
  obtain ⟨W2, HW2, hA2, BT0⟩ := alloc_namedX w2 (.cells #[.int .i64 T.start, .slice t1 T.reads.length t2, .slice t3 T.writes.length t4] 28)
  have HX0 : Hid (TxIs w2 (.agg #[.int .i64 T.start, .slice t1 T.reads.length t2, .slice t3 T.writes.length t4]) T) := h
  clear h KT
  go_upto_region 3 with fail
  rw [← HW2.out]
  obtain ⟨ttB, httB⟩ : ∃ ttB, ttB = w2.heap.size := ⟨_, rfl⟩
  have htL : w2.heap.size ≤ ttB := by omega
  rw [← httB] at BT0 ⊢
  clear httB HW2
  go_wp2_with fail
  refine (PK.out _ _ hcl).mono ?_
  rintro e w20 ⟨k, rfl, hk, hw20⟩
  rw [hw20]
  clear hw20 PK
  obtain ⟨⟨c0, c1, c2⟩, f0, f1, f2⟩ := trip_room2 BT0.out
  obtain ⟨WV, hWV⟩ : ∃ WV, WV = W2.setCell ⟨ttB, 0, none⟩ (.int .i64 (k : Int)) := ⟨_, rfl⟩
  have Btt : Hid (WV.heap[ttB]? = some (.cells #[.int .i64 (k : Int), .slice t1 T.reads.length t2, .slice t3 T.writes.length t4] 28)) := by show _ = _; rw [hWV]; exact set_self BT0.out
  have hgV : w2.grownBy WV none := by rw [hWV]; exact grown_setNew hA2 ttB htL _ _
  have HWV : Hid (WV = W2.setCell ⟨ttB, 0, none⟩ (.int .i64 (k : Int))) := hWV
  clear hWV
  go_upto_region 4 with fail
  rw [← HWV.out]
  have hgW := grown_trans hg2 hgV
  have HX : Hid (TxIs WV (.agg #[.int .i64 (k : Int), .slice t1 T.reads.length t2, .slice t3 T.writes.length t4]) ⟨(k : Int), T.reads, T.writes⟩) := (HX0.out.start _).grown hgV
  replace HC : Hid (CommitsIs WV (.slice ca cs.length cc) cs) := HC.out.grown hgW
  replace G0 : w.grownBy WV none := grown_trans G0 hgW
  clear c0 c1 c2 f0 f1 f2 HWV hg2 hA2 BT0 HX0 htL hgV hgW
  have hk16 : k ≤ 16 := by omega
  obtain ⟨CA, hCA⟩ : ∃ CA, CA = clashL ⟨(k : Int), T.reads, T.writes⟩ cs := ⟨_, rfl⟩
  have HCA : Hid (CA = clashL ⟨(k : Int), T.reads, T.writes⟩ cs) := hCA
  have CLA : Hid (∀ w' x, TxIs w' x ⟨(k : Int), T.reads, T.writes⟩ → CommitsIs w' (.slice ca cs.length cc) cs → Calls Try.prog 9 #[x, .slice ca cs.length cc] w' fun e w'' => e = .returned (.tuple #[.bool CA, .int .i64 0]) ∧ w'.grownBy w'' none) := fun w' x h1 h2 => by rw [hCA]; exact CL.out w' x _ _ cs h1 (start_ok HTO.out (by omega) (by omega)) h2 HFT.out
  have hhi : histE cs = 0 := (hist_iff cs).2 ⟨by omega, HGO.out⟩
  have FO : Hid (∀ w' (j : Nat), j ≤ cs.length → CommitsIs w' (.slice ca cs.length cc) cs → Calls Try.prog 10 #[.slice ca cs.length cc, .int .i64 (j : Int)] w' fun e w'' => ∃ x1 x2, e = .returned (.tuple #[.slice x1 (foldH [] (cs.take j)).length x2, .int .i64 0]) ∧ TensIs w'' (.slice x1 (foldH [] (cs.take j)).length x2) (foldH [] (cs.take j)) ∧ w'.grownBy w'' none) := fun w' j hj h => by
    obtain ⟨e1, e2⟩ := fold_ok hhi j hj
    have := HFO.out w' _ cs (j : Int) h HFT.out (by omega) (by omega)
    rw [e1, e2] at this
    refine this.mono ?_
    rintro e w'' ⟨x, rfl, hx, hg⟩
    obtain ⟨x1, x2, rfl⟩ := hx.shape
    exact ⟨x1, x2, rfl, hx, hg⟩
  have FOA := FO.out
  have FOk : Hid (∀ w', CommitsIs w' (.slice ca cs.length cc) cs → Calls Try.prog 10 #[.slice ca cs.length cc, .int .i64 (k : Int)] w' fun e w'' => ∃ x1 x2, e = .returned (.tuple #[.slice x1 (foldH [] (cs.take k)).length x2, .int .i64 0]) ∧ TensIs w'' (.slice x1 (foldH [] (cs.take k)).length x2) (foldH [] (cs.take k)) ∧ w'.grownBy w'' none) := fun w' h => FO.out w' k hk h
  have FOn : Hid (∀ w', CommitsIs w' (.slice ca cs.length cc) cs → Calls Try.prog 10 #[.slice ca cs.length cc, .int .i64 (cs.length : Int)] w' fun e w'' => ∃ x1 x2, e = .returned (.tuple #[.slice x1 (foldH [] cs).length x2, .int .i64 0]) ∧ TensIs w'' (.slice x1 (foldH [] cs).length x2) (foldH [] cs) ∧ w'.grownBy w'' none) := fun w' h => by
    have := FO.out w' cs.length (Nat.le_refl _) h
    rw [List.take_length] at this
    exact this
  have HFA : Hid (Forest (foldH [] (cs.take k))) := foldH_forest _ _ forest_nil
  have HFB : Hid (Forest (foldH [] cs)) := foldH_forest _ _ forest_nil
  have HCG : Hid (CA = false → ∀ r ∈ T.reads, r.wide = false → getF (ofF (foldH [] cs) r.name) r.key = getF (ofF (foldH [] (cs.take k)) r.name) r.key) := fun e r hr hw => clash_get (t := ⟨(k : Int), T.reads, T.writes⟩) HGO.out rfl (by rw [← HCA.out]; exact e) hr hw
  have HCR : Hid (CA = false → ∀ r ∈ T.reads, r.wide = true → rangeL (ofF (foldH [] cs) r.name) r.key r.last = rangeL (ofF (foldH [] (cs.take k)) r.name) r.key r.last) := fun e r hr hw => clash_range (t := ⟨(k : Int), T.reads, T.writes⟩) HGO.out rfl (by rw [← HCA.out]; exact e) hr hw
  have HCS : Hid (CA = true → T.reads.length ≠ 0 ∧ (k : Int) < (cs.length : Int)) := fun e => clash_sure (t := ⟨(k : Int), T.reads, T.writes⟩) HGO.out (by rw [← HCA.out]; exact e)
  clear hCA HCA FO FOA hhi HFO HGO
  generalize foldH [] (cs.take k) = FA at *
  generalize foldH [] cs = FB at *
  obtain ⟨ttc0, ttc1, ttc2⟩ := trip_room (grown_refl _ none) Btt.out
  go_wp2_with fail
  refine (CLA.out _ _ HX.out HC.out).mono ?_
  rintro e w41 ⟨rfl, hg41⟩
  clear ttc0 ttc1 ttc2
  replace G0 : w.grownBy w41 none := grown_trans G0 hg41
  replace Btt : Hid (w41.heap[ttB]? = some (.cells #[.int .i64 (k : Int), .slice t1 T.reads.length t2, .slice t3 T.writes.length t4] 28)) := pair_old hg41 Btt.out
  replace HC : Hid (CommitsIs w41 (.slice ca cs.length cc) cs) := HC.out.grown hg41
  replace HX : Hid (TxIs w41 (.agg #[.int .i64 (k : Int), .slice t1 T.reads.length t2, .slice t3 T.writes.length t4]) ⟨(k : Int), T.reads, T.writes⟩) := HX.out.grown hg41
  clear hg41
  obtain ⟨ttc0, ttc1, ttc2⟩ := trip_room (grown_refl _ none) Btt.out
  go_wp2_with fail
  refine (FOk.out _ HC.out).mono ?_
  rintro e w42 ⟨x1, x2, rfl, h, hg42⟩
  clear ttc0 ttc1 ttc2
  have HA : Hid (TensIs w42 (.slice x1 FA.length x2) FA) := h
  replace G0 : w.grownBy w42 none := grown_trans G0 hg42
  replace Btt : Hid (w42.heap[ttB]? = some (.cells #[.int .i64 (k : Int), .slice t1 T.reads.length t2, .slice t3 T.writes.length t4] 28)) := pair_old hg42 Btt.out
  replace HC : Hid (CommitsIs w42 (.slice ca cs.length cc) cs) := HC.out.grown hg42
  replace HX : Hid (TxIs w42 (.agg #[.int .i64 (k : Int), .slice t1 T.reads.length t2, .slice t3 T.writes.length t4]) ⟨(k : Int), T.reads, T.writes⟩) := HX.out.grown hg42
  clear h hg42
  go_wp2_with fail
  refine (FOn.out _ HC.out).mono ?_
  rintro e w43 ⟨z1, z2, rfl, h, hg43⟩
  have HB : Hid (TensIs w43 (.slice z1 FB.length z2) FB) := h
  replace G0 : w.grownBy w43 none := grown_trans G0 hg43
  replace Btt : Hid (w43.heap[ttB]? = some (.cells #[.int .i64 (k : Int), .slice t1 T.reads.length t2, .slice t3 T.writes.length t4] 28)) := pair_old hg43 Btt.out
  replace HC : Hid (CommitsIs w43 (.slice ca cs.length cc) cs) := HC.out.grown hg43
  replace HX : Hid (TxIs w43 (.agg #[.int .i64 (k : Int), .slice t1 T.reads.length t2, .slice t3 T.writes.length t4]) ⟨(k : Int), T.reads, T.writes⟩) := HX.out.grown hg43
  replace HA : Hid (TensIs w43 (.slice x1 FA.length x2) FA) := HA.out.grown hg43
  clear h hg43
  obtain ⟨WX, hWX⟩ : ∃ WX, WX = w43 := ⟨_, rfl⟩
  rw [← hWX] at HA HB HX G0 Btt ⊢
  have HRS : Hid (ReadsIs WX (.slice t1 T.reads.length t2) T.reads) := HX.out.parts.2.1
  clear hWX HX HC CLA FOk FOn HFT
  go_wp2_with fail
  go_loopw [16, 17, 18, 19, 20, 21, 22, 23, 24, 25] (fun s16 _ _ _ _ _ _ _ _ _ wr => ∃ i : Nat, s16 = .int .i64 (i : Int) ∧ i ≤ T.reads.length ∧ WX.grownBy wr none) (fun s16 _ _ _ _ _ _ _ _ _ _ => T.reads.length - (intOf s16).toNat)
  case atStart => exact ⟨0, rfl, by omega, grown_refl _ _⟩
  case round =>
    obtain ⟨i, rfl, hi, hg⟩ := hrel
    obtain ⟨ttc0, ttc1, ttc2⟩ := trip_room hg Btt.out
    cases CA with
    | true =>
      obtain ⟨hz0, hzk⟩ := HCS.out rfl
      have hz1 : (0 : Int) < (T.reads.length : Int) := by omega
      by_cases hlt : i < T.reads.length
      · have i1 : (i : Int) < (T.reads.length : Int) := by omega
        have GE := grown_trans G0 hg
        replace Btt : Hid (wr.heap[ttB]? = some (.cells #[.int .i64 (k : Int), .slice t1 T.reads.length t2, .slice t3 T.writes.length t4] 28)) := pair_old hg Btt.out
        obtain ⟨W3, hW3⟩ : ∃ W3 : World, W3 = (wr.alloc (.cells #[.int .u8 1] 5)).alloc (.cells #[.int .u8 2] 5) := ⟨_, rfl⟩
        obtain ⟨l1, l2, hg3⟩ := lits12 wr W3 hW3
        have NS3 : Hid (Calls Try.prog 15 #[.agg #[.int .i64 0, .slice none 0 0, .slice none 0 0], .agg #[.slice (some ⟨wr.heap.size, 0, none⟩) 1 1, .slice (some ⟨wr.heap.size + 1, 0, none⟩) 1 1, .bool false, .slice none 0 0]] W3 fun e w'' => ∃ s1 s2 s3 s4, e = .returned (.tuple #[.agg #[.int .i64 TS.start, .slice s1 TS.reads.length s2, .slice s3 TS.writes.length s4], .int .i64 0]) ∧ TxIs w'' (.agg #[.int .i64 TS.start, .slice s1 TS.reads.length s2, .slice s3 TS.writes.length s4]) TS ∧ W3.grownBy w'' none) := NS.out W3 _ _ (txIs_no _) ⟨_, _, _, rfl, l1, l2, sliceIs_nil _⟩
        have HW3 : Hid (W3 = (wr.alloc (.cells #[.int .u8 1] 5)).alloc (.cells #[.int .u8 2] 5)) := hW3
        clear hW3 l1 l2 HA HB HRS HTO HG HR SM NS HFA HFB HCG HCR HCS
        go_wp2_with fail
        rw [← HW3.out]
        refine NS3.out.mono ?_
        rintro e w4 ⟨s1, s2, s3, s4, rfl, h, hg4⟩
        obtain ⟨W5, HW5, hg5, Bss⟩ := alloc_namedX w4 (.cells #[.int .i64 TS.start, .slice s1 TS.reads.length s2, .slice s3 TS.writes.length s4] 28)
        have hgx := grown_trans hg3 (grown_trans hg4 hg5)
        have HS : Hid (TxIs W5 (.agg #[.int .i64 TS.start, .slice s1 TS.reads.length s2, .slice s3 TS.writes.length s4]) TS) := h.grown hg5
        clear h ttc0 ttc1 ttc2
        go_upto_region 23 with fail
        rw [← HW5.out]
        obtain ⟨ssB, hssB⟩ : ∃ ssB, ssB = w4.heap.size := ⟨_, rfl⟩
        rw [← hssB] at Bss ⊢
        clear hssB HW5
        replace Btt : Hid (W5.heap[ttB]? = some (.cells #[.int .i64 (k : Int), .slice t1 T.reads.length t2, .slice t3 T.writes.length t4] 28)) := pair_old hgx Btt.out
        replace GE := grown_trans GE hgx
        clear hgx hg3 hg4 hg5 HW3 NS3
        obtain ⟨W6, hW6⟩ : ∃ W6 : World, W6 = (W5.alloc (.cells #[.int .u8 1] 5)).alloc (.cells #[.int .u8 2] 5) := ⟨_, rfl⟩
        obtain ⟨W7, hW7⟩ : ∃ W7 : World, W7 = (W6.alloc (.cells #[.slice (some ⟨W5.heap.size, 0, none⟩) 1 1, .slice (some ⟨W5.heap.size + 1, 0, none⟩) 1 1, .bool false, .slice none 0 0] 53)).alloc (.cells #[.int .i64 1, .slice (some ⟨W5.heap.size + 2, 0, none⟩) 1 1] 55) := ⟨_, rfl⟩
        obtain ⟨hc7, hg7⟩ := commit_lit12 W5 W6 W7 _ _ hW6 hW7
        have HW7 : Hid (W7 = ((((W5.alloc (.cells #[.int .u8 1] 5)).alloc (.cells #[.int .u8 2] 5)).alloc (.cells #[.slice (some ⟨W5.heap.size, 0, none⟩) 1 1, .slice (some ⟨W5.heap.size + 1, 0, none⟩) 1 1, .bool false, .slice none 0 0] 53)).alloc (.cells #[.int .i64 1, .slice (some ⟨W5.heap.size + 2, 0, none⟩) 1 1] 55))) := by show _ = _; rw [hW7, hW6]
        have CLS : Hid (Calls Try.prog 9 #[.agg #[.int .i64 TS.start, .slice s1 TS.reads.length s2, .slice s3 TS.writes.length s4], .slice (some ⟨W5.heap.size + 3, 0, none⟩) 1 1] W7 fun e w'' => e = .returned (.tuple #[.bool true, .int .i64 0]) ∧ W7.grownBy w'' none) := by
          have := CL.out W7 _ _ TS _ (HS.out.grown hg7) HSO.out hc7 HQF.out
          rw [HSC.out] at this
          exact this
        clear hW6 hW7 hc7 HS CL
        obtain ⟨ssc0, ssc1, ssc2⟩ := trip_room (grown_refl _ none) Bss.out
        go_wp2_with fail
        rw [← HW7.out]
        refine CLS.out.mono ?_
        rintro e w8 ⟨rfl, hg8⟩
        have hgz := grown_trans GE (grown_trans hg7 hg8)
        obtain ⟨tc0, tc1, tc2⟩ := trip_room (grown_trans hg7 hg8) Btt.out
        clear ssc0 ssc1 ssc2 CLS HW7
        have hz2 : (T.reads.length : Int) > 0 := hz1
        go_wp2
        go_ret
        exact ⟨rfl, hgz⟩
      · have i1 : ¬ (i : Int) < (T.reads.length : Int) := by omega
        have GE := grown_trans G0 hg
        replace Btt : Hid (wr.heap[ttB]? = some (.cells #[.int .i64 (k : Int), .slice t1 T.reads.length t2, .slice t3 T.writes.length t4] 28)) := pair_old hg Btt.out
        obtain ⟨W3, hW3⟩ : ∃ W3 : World, W3 = (wr.alloc (.cells #[.int .u8 1] 5)).alloc (.cells #[.int .u8 2] 5) := ⟨_, rfl⟩
        obtain ⟨l1, l2, hg3⟩ := lits12 wr W3 hW3
        have NS3 : Hid (Calls Try.prog 15 #[.agg #[.int .i64 0, .slice none 0 0, .slice none 0 0], .agg #[.slice (some ⟨wr.heap.size, 0, none⟩) 1 1, .slice (some ⟨wr.heap.size + 1, 0, none⟩) 1 1, .bool false, .slice none 0 0]] W3 fun e w'' => ∃ s1 s2 s3 s4, e = .returned (.tuple #[.agg #[.int .i64 TS.start, .slice s1 TS.reads.length s2, .slice s3 TS.writes.length s4], .int .i64 0]) ∧ TxIs w'' (.agg #[.int .i64 TS.start, .slice s1 TS.reads.length s2, .slice s3 TS.writes.length s4]) TS ∧ W3.grownBy w'' none) := NS.out W3 _ _ (txIs_no _) ⟨_, _, _, rfl, l1, l2, sliceIs_nil _⟩
        have HW3 : Hid (W3 = (wr.alloc (.cells #[.int .u8 1] 5)).alloc (.cells #[.int .u8 2] 5)) := hW3
        clear hW3 l1 l2 HA HB HRS HTO HG HR SM NS HFA HFB HCG HCR HCS
        go_wp2_with fail
        rw [← HW3.out]
        refine NS3.out.mono ?_
        rintro e w4 ⟨s1, s2, s3, s4, rfl, h, hg4⟩
        obtain ⟨W5, HW5, hg5, Bss⟩ := alloc_namedX w4 (.cells #[.int .i64 TS.start, .slice s1 TS.reads.length s2, .slice s3 TS.writes.length s4] 28)
        have hgx := grown_trans hg3 (grown_trans hg4 hg5)
        have HS : Hid (TxIs W5 (.agg #[.int .i64 TS.start, .slice s1 TS.reads.length s2, .slice s3 TS.writes.length s4]) TS) := h.grown hg5
        clear h ttc0 ttc1 ttc2
        go_upto_region 23 with fail
        rw [← HW5.out]
        obtain ⟨ssB, hssB⟩ : ∃ ssB, ssB = w4.heap.size := ⟨_, rfl⟩
        rw [← hssB] at Bss ⊢
        clear hssB HW5
        replace Btt : Hid (W5.heap[ttB]? = some (.cells #[.int .i64 (k : Int), .slice t1 T.reads.length t2, .slice t3 T.writes.length t4] 28)) := pair_old hgx Btt.out
        replace GE := grown_trans GE hgx
        clear hgx hg3 hg4 hg5 HW3 NS3
        obtain ⟨W6, hW6⟩ : ∃ W6 : World, W6 = (W5.alloc (.cells #[.int .u8 1] 5)).alloc (.cells #[.int .u8 2] 5) := ⟨_, rfl⟩
        obtain ⟨W7, hW7⟩ : ∃ W7 : World, W7 = (W6.alloc (.cells #[.slice (some ⟨W5.heap.size, 0, none⟩) 1 1, .slice (some ⟨W5.heap.size + 1, 0, none⟩) 1 1, .bool false, .slice none 0 0] 53)).alloc (.cells #[.int .i64 1, .slice (some ⟨W5.heap.size + 2, 0, none⟩) 1 1] 55) := ⟨_, rfl⟩
        obtain ⟨hc7, hg7⟩ := commit_lit12 W5 W6 W7 _ _ hW6 hW7
        have HW7 : Hid (W7 = ((((W5.alloc (.cells #[.int .u8 1] 5)).alloc (.cells #[.int .u8 2] 5)).alloc (.cells #[.slice (some ⟨W5.heap.size, 0, none⟩) 1 1, .slice (some ⟨W5.heap.size + 1, 0, none⟩) 1 1, .bool false, .slice none 0 0] 53)).alloc (.cells #[.int .i64 1, .slice (some ⟨W5.heap.size + 2, 0, none⟩) 1 1] 55))) := by show _ = _; rw [hW7, hW6]
        have CLS : Hid (Calls Try.prog 9 #[.agg #[.int .i64 TS.start, .slice s1 TS.reads.length s2, .slice s3 TS.writes.length s4], .slice (some ⟨W5.heap.size + 3, 0, none⟩) 1 1] W7 fun e w'' => e = .returned (.tuple #[.bool true, .int .i64 0]) ∧ W7.grownBy w'' none) := by
          have := CL.out W7 _ _ TS _ (HS.out.grown hg7) HSO.out hc7 HQF.out
          rw [HSC.out] at this
          exact this
        clear hW6 hW7 hc7 HS CL
        obtain ⟨ssc0, ssc1, ssc2⟩ := trip_room (grown_refl _ none) Bss.out
        go_wp2_with fail
        rw [← HW7.out]
        refine CLS.out.mono ?_
        rintro e w8 ⟨rfl, hg8⟩
        have hgz := grown_trans GE (grown_trans hg7 hg8)
        obtain ⟨tc0, tc1, tc2⟩ := trip_room (grown_trans hg7 hg8) Btt.out
        clear ssc0 ssc1 ssc2 CLS HW7
        have hz2 : (T.reads.length : Int) > 0 := hz1
        go_wp2
        go_ret
        exact ⟨rfl, hgz⟩
    | false =>
      by_cases hlt : i < T.reads.length
      · have i1 : (i : Int) < (T.reads.length : Int) := by omega
        obtain ⟨b, o, rfl, y1, y2, y3, y4, y5, y6, ⟨x1w, x2w, x3w, x4w⟩, hrd⟩ := reads_cells HRS.out i hlt
        have e1w := hg.cell x1w (by simp)
        have e2w := hg.cell x2w (by simp)
        have e3w := hg.cell x3w (by simp)
        have e4w := hg.cell x4w (by simp)
        have hmem : T.reads.getD i noRd ∈ T.reads := by rw [show T.reads.getD i noRd = T.reads[i] by simp [hlt]]; exact List.getElem_mem hlt
        obtain ⟨rn, rk, rl⟩ := (readE_iff _).1 (HTO.out.each _ hmem)
        by_cases hw : (T.reads.getD i noRd).wide = true
        · rw [hw] at e3w
          rw [if_pos hw] at rl
          have hrr := HCR.out rfl _ hmem hw
          obtain ⟨r1, r2⟩ := frange_ok HFA.out _ _ _ rn rk rl
          obtain ⟨r3, r4⟩ := frange_ok HFB.out _ _ _ rn rk rl
          rw [hrr] at r4
          obtain ⟨v1, v2, _, v3⟩ := hrd.parts
          have hrl : (rangeL (ofF FA (T.reads.getD i noRd).name) (T.reads.getD i noRd).key (T.reads.getD i noRd).last).length ≤ 140737488355328 := by
            have h1 := (of_tree HFA.out (T.reads.getD i noRd).name).room
            have h2 := range_len (ofF FA (T.reads.getD i noRd).name) (T.reads.getD i noRd).key (T.reads.getD i noRd).last
            omega
          have RA : Hid (∀ w', WX.grownBy w' none → Calls Try.prog 11 #[.slice x1 FA.length x2, .slice y1 (T.reads.getD i noRd).name.length y2, .slice y3 (T.reads.getD i noRd).key.length y4, .slice y5 (T.reads.getD i noRd).last.length y6] w' fun e w'' => ∃ u1 u2, e = .returned (.tuple #[.slice u1 (rangeL (ofF FA (T.reads.getD i noRd).name) (T.reads.getD i noRd).key (T.reads.getD i noRd).last).length u2, .int .i64 0]) ∧ PairsIs w'' (.slice u1 (rangeL (ofF FA (T.reads.getD i noRd).name) (T.reads.getD i noRd).key (T.reads.getD i noRd).last).length u2) (rangeL (ofF FA (T.reads.getD i noRd).name) (T.reads.getD i noRd).key (T.reads.getD i noRd).last) ∧ w'.grownBy w'' none) := fun w' h => by
            have := HR.out w' _ _ _ _ FA _ _ _ (HA.out.grown h) (v1.grown h) (v2.grown h) (v3.grown h) HFA.out.fits (by omega) (by omega) (by omega)
            rw [r1, r2] at this
            refine this.mono ?_
            rintro e w'' ⟨x, rfl, hx, hg⟩
            obtain ⟨u1, u2, rfl⟩ := hx.shape
            exact ⟨u1, u2, rfl, hx, hg⟩
          have RB : Hid (∀ w', WX.grownBy w' none → Calls Try.prog 11 #[.slice z1 FB.length z2, .slice y1 (T.reads.getD i noRd).name.length y2, .slice y3 (T.reads.getD i noRd).key.length y4, .slice y5 (T.reads.getD i noRd).last.length y6] w' fun e w'' => ∃ u1 u2, e = .returned (.tuple #[.slice u1 (rangeL (ofF FA (T.reads.getD i noRd).name) (T.reads.getD i noRd).key (T.reads.getD i noRd).last).length u2, .int .i64 0]) ∧ PairsIs w'' (.slice u1 (rangeL (ofF FA (T.reads.getD i noRd).name) (T.reads.getD i noRd).key (T.reads.getD i noRd).last).length u2) (rangeL (ofF FA (T.reads.getD i noRd).name) (T.reads.getD i noRd).key (T.reads.getD i noRd).last) ∧ w'.grownBy w'' none) := fun w' h => by
            have := HR.out w' _ _ _ _ FB _ _ _ (HB.out.grown h) (v1.grown h) (v2.grown h) (v3.grown h) HFB.out.fits (by omega) (by omega) (by omega)
            rw [r3, r4] at this
            refine this.mono ?_
            rintro e w'' ⟨x, rfl, hx, hg⟩
            obtain ⟨u1, u2, rfl⟩ := hx.shape
            exact ⟨u1, u2, rfl, hx, hg⟩
          have SP : Hid (∀ w' x y, PairsIs w' x (rangeL (ofF FA (T.reads.getD i noRd).name) (T.reads.getD i noRd).key (T.reads.getD i noRd).last) → PairsIs w' y (rangeL (ofF FA (T.reads.getD i noRd).name) (T.reads.getD i noRd).key (T.reads.getD i noRd).last) → Calls Try.prog 12 #[x, y] w' fun e w'' => e = .returned (.bool true) ∧ w'.grownBy w'' none) := fun w' x y h1 h2 => by
            refine (ksamePairs_any w' x y _ _ h1 h2 hrl).mono ?_
            rintro e w'' ⟨rfl, hg⟩
            exact ⟨by simp, hg⟩
          generalize rangeL (ofF FA (T.reads.getD i noRd).name) (T.reads.getD i noRd).key (T.reads.getD i noRd).last = RL at *
          clear hrd x1w x2w x3w x4w v1 v2 v3 hmem rn rk rl hw hrr r1 r2 r3 r4 hrl HCG HCR HCS
          generalize T.reads.getD i noRd = PP at *
          obtain ⟨W5, HW5, hg5, Brr⟩ := alloc_namedX wr (.cells #[.slice y1 PP.name.length y2, .slice y3 PP.key.length y4, .bool true, .slice y5 PP.last.length y6] 40)
          have GL := grown_trans hg hg5
          go_upto_region 13 with fail
          rw [← HW5.out]
          obtain ⟨rrB, hrrB⟩ : ∃ rrB, rrB = wr.heap.size := ⟨_, rfl⟩
          rw [← hrrB] at Brr ⊢
          clear hrrB HW5 hg5 e1w e2w e3w e4w ttc0 ttc1 ttc2
          obtain ⟨⟨rrc0, rrc1, rrc2, rrc3⟩, _⟩ := quad_room (grown_refl _ none) Brr.out
          go_wp2_with fail
          refine (RA.out _ GL).mono ?_
          rintro e w51 ⟨u1, u2, rfl, h, hg51⟩
          clear rrc0 rrc1 rrc2 rrc3
          have HU : Hid (PairsIs w51 (.slice u1 RL.length u2) RL) := h
          replace GL : WX.grownBy w51 none := grown_trans GL hg51
          replace Brr : Hid (w51.heap[rrB]? = some (.cells #[.slice y1 PP.name.length y2, .slice y3 PP.key.length y4, .bool true, .slice y5 PP.last.length y6] 40)) := pair_old hg51 Brr.out
          clear h hg51
          obtain ⟨⟨rrc0, rrc1, rrc2, rrc3⟩, _⟩ := quad_room (grown_refl _ none) Brr.out
          go_wp2_with fail
          refine (RB.out _ GL).mono ?_
          rintro e w52 ⟨u3, u4, rfl, h, hg52⟩
          clear rrc0 rrc1 rrc2 rrc3
          have HU2 : Hid (PairsIs w52 (.slice u3 RL.length u4) RL) := h
          replace GL : WX.grownBy w52 none := grown_trans GL hg52
          replace Brr : Hid (w52.heap[rrB]? = some (.cells #[.slice y1 PP.name.length y2, .slice y3 PP.key.length y4, .bool true, .slice y5 PP.last.length y6] 40)) := pair_old hg52 Brr.out
          replace HU : Hid (PairsIs w52 (.slice u1 RL.length u2) RL) := HU.out.grown hg52
          clear h hg52
          go_wp2_with fail
          refine (SP.out _ _ _ HU.out HU2.out).mono ?_
          rintro e w53 ⟨rfl, hg53⟩
          replace GL : WX.grownBy w53 none := grown_trans GL hg53
          replace Brr : Hid (w53.heap[rrB]? = some (.cells #[.slice y1 PP.name.length y2, .slice y3 PP.key.length y4, .bool true, .slice y5 PP.last.length y6] 40)) := pair_old hg53 Brr.out
          replace HU : Hid (PairsIs w53 (.slice u1 RL.length u2) RL) := HU.out.grown hg53
          replace HU2 : Hid (PairsIs w53 (.slice u3 RL.length u4) RL) := HU2.out.grown hg53
          clear hg53
          go_wp2_with fail
          go_roundw
          case rel =>
            first
              | exact ⟨i + 1, by go_num, by omega, GL⟩
              | ((repeat apply Exists.intro); refine ⟨⟨i + 1, ?_, by omega, GL⟩, rfl⟩; go_num)
          case measure => simp [intOf]; omega
        · have hw' : (T.reads.getD i noRd).wide = false := by simpa using hw
          rw [hw'] at e3w
          have hrr := HCG.out rfl _ hmem hw'
          obtain ⟨r1, r2, r3⟩ := fget_ok HFA.out _ _ rn rk
          obtain ⟨r4, r5, r6⟩ := fget_ok HFB.out _ _ rn rk
          rw [hrr, ← r2] at r5
          rw [hrr, ← r3] at r6
          obtain ⟨v1, v2, _, v3⟩ := hrd.parts
          have GA : Hid (∀ w', WX.grownBy w' none → Calls Try.prog 13 #[.slice x1 FA.length x2, .slice y1 (T.reads.getD i noRd).name.length y2, .slice y3 (T.reads.getD i noRd).key.length y4] w' fun e w'' => ∃ u1 u2, e = .returned (.tuple #[.agg #[.bool (fgetB FA (T.reads.getD i noRd).name (T.reads.getD i noRd).key), .slice u1 (fgetV FA (T.reads.getD i noRd).name (T.reads.getD i noRd).key).length u2], .int .i64 0]) ∧ SliceIs w'' (.slice u1 (fgetV FA (T.reads.getD i noRd).name (T.reads.getD i noRd).key).length u2) (fgetV FA (T.reads.getD i noRd).name (T.reads.getD i noRd).key) ∧ w'.grownBy w'' none) := fun w' h => by
            have := HG.out w' _ _ _ FA _ _ (HA.out.grown h) (v1.grown h) (v2.grown h) HFA.out.fits (by omega) (by omega)
            rw [r1] at this
            refine this.mono ?_
            rintro e w'' ⟨x, rfl, hx, hg⟩
            obtain ⟨u1, u2, rfl⟩ := hx.shape
            exact ⟨u1, u2, rfl, hx, hg⟩
          have GB2 : Hid (∀ w', WX.grownBy w' none → Calls Try.prog 13 #[.slice z1 FB.length z2, .slice y1 (T.reads.getD i noRd).name.length y2, .slice y3 (T.reads.getD i noRd).key.length y4] w' fun e w'' => ∃ u1 u2, e = .returned (.tuple #[.agg #[.bool (fgetB FA (T.reads.getD i noRd).name (T.reads.getD i noRd).key), .slice u1 (fgetV FA (T.reads.getD i noRd).name (T.reads.getD i noRd).key).length u2], .int .i64 0]) ∧ SliceIs w'' (.slice u1 (fgetV FA (T.reads.getD i noRd).name (T.reads.getD i noRd).key).length u2) (fgetV FA (T.reads.getD i noRd).name (T.reads.getD i noRd).key) ∧ w'.grownBy w'' none) := fun w' h => by
            have := HG.out w' _ _ _ FB _ _ (HB.out.grown h) (v1.grown h) (v2.grown h) HFB.out.fits (by omega) (by omega)
            rw [r4, r5, r6] at this
            refine this.mono ?_
            rintro e w'' ⟨x, rfl, hx, hg⟩
            obtain ⟨u1, u2, rfl⟩ := hx.shape
            exact ⟨u1, u2, rfl, hx, hg⟩
          generalize fgetB FA (T.reads.getD i noRd).name (T.reads.getD i noRd).key = GB at *
          generalize fgetV FA (T.reads.getD i noRd).name (T.reads.getD i noRd).key = GV at *
          clear hrd x1w x2w x3w x4w v1 v2 v3 hmem rn rk rl hw hw' hrr r1 r2 r3 r4 r5 r6 HCG HCR HCS
          generalize T.reads.getD i noRd = PP at *
          obtain ⟨W5, HW5, hg5, Brr⟩ := alloc_namedX wr (.cells #[.slice y1 PP.name.length y2, .slice y3 PP.key.length y4, .bool false, .slice y5 PP.last.length y6] 40)
          have GL := grown_trans hg hg5
          go_upto_region 13 with fail
          rw [← HW5.out]
          obtain ⟨rrB, hrrB⟩ : ∃ rrB, rrB = wr.heap.size := ⟨_, rfl⟩
          rw [← hrrB] at Brr ⊢
          clear hrrB HW5 hg5 e1w e2w e3w e4w ttc0 ttc1 ttc2
          obtain ⟨⟨rrc0, rrc1, rrc2, rrc3⟩, _⟩ := quad_room (grown_refl _ none) Brr.out
          go_wp2_with fail
          refine (GA.out _ GL).mono ?_
          rintro e w51 ⟨u1, u2, rfl, h, hg51⟩
          clear rrc0 rrc1 rrc2 rrc3
          obtain ⟨W51, HW51, hA51, Bxx⟩ := alloc_namedX w51 (.cells #[.bool GB, .slice u1 GV.length u2] 46)
          have hs51 := grown_trans hg51 hA51
          have HU : Hid (SliceIs W51 (.slice u1 GV.length u2) GV) := h.grown hA51
          replace GL : WX.grownBy W51 none := grown_trans GL hs51
          replace Brr : Hid (W51.heap[rrB]? = some (.cells #[.slice y1 PP.name.length y2, .slice y3 PP.key.length y4, .bool false, .slice y5 PP.last.length y6] 40)) := pair_old hs51 Brr.out
          clear h
          go_upto_region 19 with fail
          rw [← HW51.out]
          obtain ⟨xxB, hxxB⟩ : ∃ xxB, xxB = w51.heap.size := ⟨_, rfl⟩
          rw [← hxxB] at Bxx ⊢
          clear hxxB HW51 hs51 hA51 hg51
          obtain ⟨⟨rrc0, rrc1, rrc2, rrc3⟩, _⟩ := quad_room (grown_refl _ none) Brr.out
          go_wp2_with fail
          refine (GB2.out _ GL).mono ?_
          rintro e w52 ⟨u3, u4, rfl, h, hg52⟩
          clear rrc0 rrc1 rrc2 rrc3
          obtain ⟨W52, HW52, hA52, Byy⟩ := alloc_namedX w52 (.cells #[.bool GB, .slice u3 GV.length u4] 46)
          have hs52 := grown_trans hg52 hA52
          have HU2 : Hid (SliceIs W52 (.slice u3 GV.length u4) GV) := h.grown hA52
          replace GL : WX.grownBy W52 none := grown_trans GL hs52
          replace Brr : Hid (W52.heap[rrB]? = some (.cells #[.slice y1 PP.name.length y2, .slice y3 PP.key.length y4, .bool false, .slice y5 PP.last.length y6] 40)) := pair_old hs52 Brr.out
          replace Bxx : Hid (W52.heap[xxB]? = some (.cells #[.bool GB, .slice u1 GV.length u2] 46)) := pair_old hs52 Bxx.out
          replace HU : Hid (SliceIs W52 (.slice u1 GV.length u2) GV) := HU.out.grown hs52
          clear h
          go_upto_region 20 with fail
          rw [← HW52.out]
          obtain ⟨yyB, hyyB⟩ : ∃ yyB, yyB = w52.heap.size := ⟨_, rfl⟩
          rw [← hyyB] at Byy ⊢
          clear hyyB HW52 hs52 hA52 hg52
          have hbb : (GB != GB) = false := by simp
          obtain ⟨xc0, xc1, _, _⟩ := pair_room (grown_refl _ none) Bxx.out
          obtain ⟨yc0, yc1, _, _⟩ := pair_room (grown_refl _ none) Byy.out
          go_wp2_with fail
          refine (SM.out _ _ _ _ HU.out HU2.out).mono ?_
          rintro e w60 ⟨rfl, hw60⟩
          rw [hw60]
          clear hw60 xc0 xc1 yc0 yc1
          go_wp2_with fail
          go_roundw
          case rel =>
            first
              | exact ⟨i + 1, by go_num, by omega, GL⟩
              | ((repeat apply Exists.intro); refine ⟨⟨i + 1, ?_, by omega, GL⟩, rfl⟩; go_num)
          case measure => simp [intOf]; omega
      · obtain rfl : i = T.reads.length := by omega
        have i1 : ¬ (T.reads.length : Int) < (T.reads.length : Int) := by omega
        have GE := grown_trans G0 hg
        replace Btt : Hid (wr.heap[ttB]? = some (.cells #[.int .i64 (k : Int), .slice t1 T.reads.length t2, .slice t3 T.writes.length t4] 28)) := pair_old hg Btt.out
        obtain ⟨W3, hW3⟩ : ∃ W3 : World, W3 = (wr.alloc (.cells #[.int .u8 1] 5)).alloc (.cells #[.int .u8 2] 5) := ⟨_, rfl⟩
        obtain ⟨l1, l2, hg3⟩ := lits12 wr W3 hW3
        have NS3 : Hid (Calls Try.prog 15 #[.agg #[.int .i64 0, .slice none 0 0, .slice none 0 0], .agg #[.slice (some ⟨wr.heap.size, 0, none⟩) 1 1, .slice (some ⟨wr.heap.size + 1, 0, none⟩) 1 1, .bool false, .slice none 0 0]] W3 fun e w'' => ∃ s1 s2 s3 s4, e = .returned (.tuple #[.agg #[.int .i64 TS.start, .slice s1 TS.reads.length s2, .slice s3 TS.writes.length s4], .int .i64 0]) ∧ TxIs w'' (.agg #[.int .i64 TS.start, .slice s1 TS.reads.length s2, .slice s3 TS.writes.length s4]) TS ∧ W3.grownBy w'' none) := NS.out W3 _ _ (txIs_no _) ⟨_, _, _, rfl, l1, l2, sliceIs_nil _⟩
        have HW3 : Hid (W3 = (wr.alloc (.cells #[.int .u8 1] 5)).alloc (.cells #[.int .u8 2] 5)) := hW3
        clear hW3 l1 l2 HA HB HRS HTO HG HR SM NS HFA HFB HCG HCR HCS
        go_wp2_with fail
        rw [← HW3.out]
        refine NS3.out.mono ?_
        rintro e w4 ⟨s1, s2, s3, s4, rfl, h, hg4⟩
        obtain ⟨W5, HW5, hg5, Bss⟩ := alloc_namedX w4 (.cells #[.int .i64 TS.start, .slice s1 TS.reads.length s2, .slice s3 TS.writes.length s4] 28)
        have hgx := grown_trans hg3 (grown_trans hg4 hg5)
        have HS : Hid (TxIs W5 (.agg #[.int .i64 TS.start, .slice s1 TS.reads.length s2, .slice s3 TS.writes.length s4]) TS) := h.grown hg5
        clear h ttc0 ttc1 ttc2
        go_upto_region 23 with fail
        rw [← HW5.out]
        obtain ⟨ssB, hssB⟩ : ∃ ssB, ssB = w4.heap.size := ⟨_, rfl⟩
        rw [← hssB] at Bss ⊢
        clear hssB HW5
        replace Btt : Hid (W5.heap[ttB]? = some (.cells #[.int .i64 (k : Int), .slice t1 T.reads.length t2, .slice t3 T.writes.length t4] 28)) := pair_old hgx Btt.out
        replace GE := grown_trans GE hgx
        clear hgx hg3 hg4 hg5 HW3 NS3
        obtain ⟨W6, hW6⟩ : ∃ W6 : World, W6 = (W5.alloc (.cells #[.int .u8 1] 5)).alloc (.cells #[.int .u8 2] 5) := ⟨_, rfl⟩
        obtain ⟨W7, hW7⟩ : ∃ W7 : World, W7 = (W6.alloc (.cells #[.slice (some ⟨W5.heap.size, 0, none⟩) 1 1, .slice (some ⟨W5.heap.size + 1, 0, none⟩) 1 1, .bool false, .slice none 0 0] 53)).alloc (.cells #[.int .i64 1, .slice (some ⟨W5.heap.size + 2, 0, none⟩) 1 1] 55) := ⟨_, rfl⟩
        obtain ⟨hc7, hg7⟩ := commit_lit12 W5 W6 W7 _ _ hW6 hW7
        have HW7 : Hid (W7 = ((((W5.alloc (.cells #[.int .u8 1] 5)).alloc (.cells #[.int .u8 2] 5)).alloc (.cells #[.slice (some ⟨W5.heap.size, 0, none⟩) 1 1, .slice (some ⟨W5.heap.size + 1, 0, none⟩) 1 1, .bool false, .slice none 0 0] 53)).alloc (.cells #[.int .i64 1, .slice (some ⟨W5.heap.size + 2, 0, none⟩) 1 1] 55))) := by show _ = _; rw [hW7, hW6]
        have CLS : Hid (Calls Try.prog 9 #[.agg #[.int .i64 TS.start, .slice s1 TS.reads.length s2, .slice s3 TS.writes.length s4], .slice (some ⟨W5.heap.size + 3, 0, none⟩) 1 1] W7 fun e w'' => e = .returned (.tuple #[.bool true, .int .i64 0]) ∧ W7.grownBy w'' none) := by
          have := CL.out W7 _ _ TS _ (HS.out.grown hg7) HSO.out hc7 HQF.out
          rw [HSC.out] at this
          exact this
        clear hW6 hW7 hc7 HS CL
        obtain ⟨ssc0, ssc1, ssc2⟩ := trip_room (grown_refl _ none) Bss.out
        go_wp2_with fail
        rw [← HW7.out]
        refine CLS.out.mono ?_
        rintro e w8 ⟨rfl, hg8⟩
        have hgz := grown_trans GE (grown_trans hg7 hg8)
        obtain ⟨tc0, tc1, tc2⟩ := trip_room (grown_trans hg7 hg8) Btt.out
        clear ssc0 ssc1 ssc2 CLS HW7
        by_cases hz : 0 < T.reads.length
        · have hz1 : (0 : Int) < (T.reads.length : Int) := by omega
          by_cases hzz : k < cs.length
          · have hzk : (k : Int) < (cs.length : Int) := by omega
            go_wp2
            go_ret
            exact ⟨rfl, hgz⟩
          · have hzk : ¬ (k : Int) < (cs.length : Int) := by omega
            go_wp2
            go_ret
            exact ⟨rfl, hgz⟩
        · have hz1 : ¬ (0 : Int) < (T.reads.length : Int) := by omega
          by_cases hzz : k < cs.length
          · have hzk : (k : Int) < (cs.length : Int) := by omega
            go_wp2
            go_ret
            exact ⟨rfl, hgz⟩
          · have hzk : ¬ (k : Int) < (cs.length : Int) := by omega
            go_wp2
            go_ret
            exact ⟨rfl, hgz⟩
end Go.Proofs.Ytpmfbfflacbmjac
