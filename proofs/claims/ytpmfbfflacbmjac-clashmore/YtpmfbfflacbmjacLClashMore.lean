/-
  The walk of canopykeep.ClashMore, over what the code must keep.
-/
import Derived.Test.YtpmfbfflacbmjacKTxn
import Derived.Test.YtpmfbfflacbmjacKSame
import Derived.Test.YtpmfbfflacbmjacPart2
import Derived.Test.YtpmfbfflacbmjacKCommits
import Derived.Test.YtpmfbfflacbmjacPicked
namespace Go.Proofs.Ytpmfbfflacbmjac
open Go.RowKit
set_option maxRecDepth 100000 in
set_option maxHeartbeats 4000000 in
theorem clashMore_walk (hF : FApplyNewOK) (hW : TxWriteOK) (hN : TxNoteOK) (hC : TxCheckOK) (hCl : TxClashOK) (w : World) (v u p : Value) (l rs : List Plc) (P : Plc) (n : Int) (hv : PlacesIs w v l) (hl : FitsQ l) (hs : PlacesIs w u rs) (hsl : FitsQ rs) (hP : PlaceIs w p P) (fP : PlcFits P) (hn0 : -9223372036854775808 ≤ n) (hn1 : n ≤ 9223372036854775807) :
    Calls Try.prog 4 #[v, u, p, .int .i64 n] w fun e w' => e = .returned (.bool true) ∧ w.grownBy w' none := by
  obtain ⟨la, lc, rfl⟩ := hv.shape
  obtain ⟨sa, sc, rfl⟩ := hs.shape
  obtain ⟨p1, p2, p3, p4, p5, p6, rfl⟩ := hP.cellsX
  have KC : Hid (∀ w', w.grownBy w' none → Calls Try.prog 6 #[.slice la l.length lc, .int .i64 16] w' fun e w'' => ∃ ca cc cs, e = .returned (.slice ca cs.length cc) ∧ CommitsIs w'' (.slice ca cs.length cc) cs ∧ Goes [] 0 cs ∧ cs.length ≤ 16 ∧ w'.grownBy w'' none) := fun w' hg => by
    refine (kcommits_any hF w' _ l 16 (hv.grown hg) hl (by omega)).mono ?_
    rintro e w'' ⟨v', rfl, cs, h1, ⟨f, hco⟩, hg1⟩
    have hlen : ((l.take 16).map writeF).length ≤ 16 := by simp; omega
    have hcl : cs.length ≤ 16 := by have := hco.few; omega
    obtain ⟨ca, cc, rfl⟩ := h1.shape
    exact ⟨ca, cc, cs, rfl, h1, (cmts_histX hco (by omega)).1, hcl, hg1⟩
  obtain ⟨hTO, hTs, _, hTr⟩ := txOf_ok [] rs
  have KT : Hid (∀ w', w.grownBy w' none → Calls Try.prog 7 #[.slice none 0 0, .slice sa rs.length sc] w' fun e w'' => ∃ t1 t2 t3 t4, e = .returned (.tuple #[.agg #[.int .i64 (txOf [] rs).start, .slice t1 (txOf [] rs).reads.length t2, .slice t3 (txOf [] rs).writes.length t4], .bool true]) ∧ TxIs w'' (.agg #[.int .i64 (txOf [] rs).start, .slice t1 (txOf [] rs).reads.length t2, .slice t3 (txOf [] rs).writes.length t4]) (txOf [] rs) ∧ w'.grownBy w'' none) := fun w' hg => ktxn_any hW hN hC w' _ _ [] rs (places_nilX _) ⟨by simp, fun i hi => absurd hi (by simp)⟩ (hs.grown hg) hsl
  have RC0 : Hid (∀ w', w.grownBy w' none → Calls Try.prog 16 #[.agg #[.slice p1 P.name.length p2, .slice p3 P.key.length p4, .slice p5 P.value.length p6, .bool P.gone]] w' fun e w'' => ∃ y, e = .returned y ∧ ReadIs w'' y (readF P) ∧ w'.grownBy w'' none) := fun w' hg => by
    refine (kread_any w' _ P (hP.grown hg) fP).mono ?_
    rintro e w'' ⟨vn, vk, vv, rfl, h1, h2, h3, hg⟩
    exact ⟨_, rfl, ⟨_, _, _, rfl, (h1.part (base := 0)).slice, (h2.part (base := 0)).slice, (h3.part (base := 0)).slice⟩, hg⟩
  have hRE := readF_ok P
  generalize readF P = R at *
  have KP : Hid (∀ w', w.grownBy w' none → Calls Try.prog 17 #[.agg #[.slice p1 P.name.length p2, .slice p3 P.key.length p4, .slice p5 P.value.length p6, .bool P.gone]] w' fun e w'' => ∃ q1 q2 q3 q4 q5 q6, e = .returned (.agg #[.slice q1 (writeF P).name.length q2, .slice q3 (writeF P).key.length q4, .bool (writeF P).gone, .slice q5 (writeF P).value.length q6]) ∧ SliceIs w'' (.slice q1 (writeF P).name.length q2) (writeF P).name ∧ SliceIs w'' (.slice q3 (writeF P).key.length q4) (writeF P).key ∧ SliceIs w'' (.slice q5 (writeF P).value.length q6) (writeF P).value ∧ w'.grownBy w'' none) := fun w' hg => by
    refine (write_any w' _ P (hP.grown hg) fP).mono ?_
    rintro e w'' ⟨vn, vk, vv, rfl, h1, h2, h3, hg⟩
    obtain ⟨q1, q2, rfl⟩ := h1.shape
    obtain ⟨q3, q4, rfl⟩ := h2.shape
    obtain ⟨q5, q6, rfl⟩ := h3.shape
    exact ⟨q1, q2, q3, q4, q5, q6, rfl, (h1.part (base := 0)).slice, (h2.part (base := 0)).slice, (h3.part (base := 0)).slice, hg⟩
  have hQE := writeF_okX P
  generalize writeF P = Q at *
  obtain ⟨Qn, Qk, _⟩ := (writeE_iff Q).1 hQE
  generalize txOf [] rs = T at *
  have CL : Hid (∀ w' x y t l, TxIs w' x t → TxOK t → CommitsIs w' y l → FitsCs l → Calls Try.prog 9 #[x, y] w' fun e w'' => e = .returned (.tuple #[.bool (clashL t l), .int .i64 0]) ∧ w'.grownBy w'' none) := fun w' x y t l h1 h2 h3 h4 => by
    have := hCl w' x y t l h1 (txOK_fits h2) h3 h4
    obtain ⟨e1, e2⟩ := clash_okX h2 l
    rw [e1, e2] at this
    exact this
  have PK : Hid (∀ (w' : World) (m : Nat), m ≤ 16 → Calls Try.prog 8 #[.int .i64 n, .int .i64 ((m : Int) + 1)] w' fun e w'' => ∃ k : Nat, e = .returned (.int .i64 (k : Int)) ∧ k ≤ m ∧ w'' = w') := fun w' m hm => by
    refine (picked_any n _ w' hn0 hn1 (by omega) (by omega)).mono ?_
    rintro e w'' ⟨k, rfl, hk, rfl⟩
    exact ⟨k, rfl, by omega, rfl⟩
  have hBR := bare_read Qn Qk
  obtain ⟨hSE, hST⟩ := sure_note hBR
  have NS : Hid (∀ w' x y, TxIs w' x noTx → ReadIs w' y ⟨Q.name, Q.key, false, []⟩ → Calls Try.prog 15 #[x, y] w' fun e w'' => ∃ s1 s2 s3 s4, e = .returned (.tuple #[.agg #[.int .i64 (noteT noTx ⟨Q.name, Q.key, false, []⟩).start, .slice s1 (noteT noTx ⟨Q.name, Q.key, false, []⟩).reads.length s2, .slice s3 (noteT noTx ⟨Q.name, Q.key, false, []⟩).writes.length s4], .int .i64 0]) ∧ TxIs w'' (.agg #[.int .i64 (noteT noTx ⟨Q.name, Q.key, false, []⟩).start, .slice s1 (noteT noTx ⟨Q.name, Q.key, false, []⟩).reads.length s2, .slice s3 (noteT noTx ⟨Q.name, Q.key, false, []⟩).writes.length s4]) (noteT noTx ⟨Q.name, Q.key, false, []⟩) ∧ w'.grownBy w'' none) := fun w' x y h1 h2 => by
    have := hN w' x y noTx ⟨Q.name, Q.key, false, []⟩ h1 (txOK_fits tx_none) h2 (read_fits hBR)
    rw [hSE] at this
    refine this.mono ?_
    rintro e w'' ⟨z, rfl, hz, hg⟩
    obtain ⟨s1, s2, s3, s4, rfl⟩ := hz.agg
    exact ⟨s1, s2, s3, s4, rfl, hz, hg⟩
  have HSO : Hid (TxOK (noteT noTx ⟨Q.name, Q.key, false, []⟩)) := note_tx tx_none hBR hSE
  have HSC : Hid (clashL (noteT noTx ⟨Q.name, Q.key, false, []⟩) [⟨1, [Q]⟩] = true) := by show _ = _; rw [hST]; exact sure_clash rfl rfl
  generalize noteT noTx ⟨Q.name, Q.key, false, []⟩ = TS at *
  have HQF : Hid (FitsCs [⟨1, [Q]⟩]) := fits_sure hQE
  have HTK : Hid (∀ k : Nat, k ≤ 17 → TxOK ⟨(k : Int), T.reads, T.writes⟩) := fun k hk => start_ok hTO (by omega) (by omega)
  have HNT : Hid (∀ k : Nat, k ≤ 17 → noteE ⟨(k : Int), T.reads, T.writes⟩ R = 0) := fun k hk => by
    show _ = _
    rw [note_ok (start_ok hTO (by omega) (by omega)) hRE]
    by_cases hh : hasR ⟨(k : Int), T.reads, T.writes⟩ R = true
    · rw [if_pos hh]
    · rw [if_neg hh, if_neg]
      show ¬ T.reads.length = 20
      omega
  have NA : Hid (∀ (k : Nat) w' x y, k ≤ 17 → TxIs w' x ⟨(k : Int), T.reads, T.writes⟩ → ReadIs w' y R → Calls Try.prog 15 #[x, y] w' fun e w'' => ∃ s1 s2 s3 s4, e = .returned (.tuple #[.agg #[.int .i64 (noteT ⟨(k : Int), T.reads, T.writes⟩ R).start, .slice s1 (noteT ⟨(k : Int), T.reads, T.writes⟩ R).reads.length s2, .slice s3 (noteT ⟨(k : Int), T.reads, T.writes⟩ R).writes.length s4], .int .i64 0]) ∧ TxIs w'' (.agg #[.int .i64 (noteT ⟨(k : Int), T.reads, T.writes⟩ R).start, .slice s1 (noteT ⟨(k : Int), T.reads, T.writes⟩ R).reads.length s2, .slice s3 (noteT ⟨(k : Int), T.reads, T.writes⟩ R).writes.length s4]) (noteT ⟨(k : Int), T.reads, T.writes⟩ R) ∧ w'.grownBy w'' none) := fun k w' x y hk h1 h2 => by
    have := hN w' x y ⟨(k : Int), T.reads, T.writes⟩ R h1 (txOK_fits (HTK.out k hk)) h2 (read_fits hRE)
    rw [HNT.out k hk] at this
    refine this.mono ?_
    rintro e w'' ⟨z, rfl, hz, hg⟩
    obtain ⟨s1, s2, s3, s4, rfl⟩ := hz.agg
    exact ⟨s1, s2, s3, s4, rfl, hz, hg⟩
  have HNM : Hid (∀ k : Nat, k ≤ 17 → TxOK (noteT ⟨(k : Int), T.reads, T.writes⟩ R) ∧ (∀ x ∈ T.reads, x ∈ (noteT ⟨(k : Int), T.reads, T.writes⟩ R).reads) ∧ (noteT ⟨(k : Int), T.reads, T.writes⟩ R).start = (k : Int)) := fun k hk => by
    have h := note_more (HNT.out k hk)
    exact ⟨note_tx (HTK.out k hk) hRE (HNT.out k hk), h.1, h.2⟩
  obtain ⟨W0, HX0, G0, Bpp⟩ := alloc_namedX w (.cells #[.slice p1 P.name.length p2, .slice p3 P.key.length p4, .slice p5 P.value.length p6, .bool P.gone] 58)
  clear hs hsl hv hl hP fP hF hW hN hC hCl hTO hTs hTr hRE hQE Qn Qk hBR hSE hST hn0 hn1
  go_enter Try.func4, Try.ntmps4
  go_upto_region 1 with fail
  rw [← HX0.out]
  obtain ⟨ppB, hppB⟩ : ∃ ppB, ppB = w.heap.size := ⟨_, rfl⟩
  rw [← hppB] at Bpp ⊢
  clear hppB HX0
  go_wp2_with fail
  refine (KC.out _ G0).mono ?_
  rintro e w1 ⟨ca, cc, cs, rfl, hC1, hgo, hcl, hg1⟩
  have HGO : Hid (Goes [] 0 cs) := hgo
  have HFT : Hid (FitsCs cs) := goes_fitsX hgo (by omega)
  have HC : Hid (CommitsIs w1 (.slice ca cs.length cc) cs) := hC1
  replace G0 : w.grownBy w1 none := grown_trans G0 hg1
  replace Bpp : Hid (w1.heap[ppB]? = some (.cells #[.slice p1 P.name.length p2, .slice p3 P.key.length p4, .slice p5 P.value.length p6, .bool P.gone] 58)) := pair_old hg1 Bpp.out
  clear hgo hC1 hg1 KC
  go_wp2_with fail
  refine (KT.out _ G0).mono ?_
  rintro e w2 ⟨t1, t2, t3, t4, rfl, h, hg2⟩
  obtain ⟨W2, HW2, hA2, BT0⟩ := alloc_namedX w2 (.cells #[.int .i64 T.start, .slice t1 T.reads.length t2, .slice t3 T.writes.length t4] 28)
  have HX0 : Hid (TxIs w2 (.agg #[.int .i64 T.start, .slice t1 T.reads.length t2, .slice t3 T.writes.length t4]) T) := h
  clear h KT
  go_upto_region 3 with fail
  rw [← HW2.out]
  obtain ⟨ttB, httB⟩ : ∃ ttB, ttB = w2.heap.size := ⟨_, rfl⟩
  have htL : w2.heap.size ≤ ttB := by omega
  rw [← httB] at BT0 ⊢
  clear httB HW2
  go_wp2_with fail
  refine (PK.out _ _ hcl).mono ?_
  rintro e w20 ⟨k, rfl, hk, hw20⟩
  rw [hw20]
  clear hw20 PK
  obtain ⟨⟨c0, c1, c2⟩, f0, f1, f2⟩ := trip_room2 BT0.out
  obtain ⟨WV, hWV⟩ : ∃ WV, WV = W2.setCell ⟨ttB, 0, none⟩ (.int .i64 (k : Int)) := ⟨_, rfl⟩
  have Btt : Hid (WV.heap[ttB]? = some (.cells #[.int .i64 (k : Int), .slice t1 T.reads.length t2, .slice t3 T.writes.length t4] 28)) := by show _ = _; rw [hWV]; exact set_self BT0.out
  have hgV : w2.grownBy WV none := by rw [hWV]; exact grown_setNew hA2 ttB htL _ _
  have HWV : Hid (WV = W2.setCell ⟨ttB, 0, none⟩ (.int .i64 (k : Int))) := hWV
  clear hWV
  go_upto_region 4 with fail
  rw [← HWV.out]
  have hgW := grown_trans hg2 hgV
  have HX : Hid (TxIs WV (.agg #[.int .i64 (k : Int), .slice t1 T.reads.length t2, .slice t3 T.writes.length t4]) ⟨(k : Int), T.reads, T.writes⟩) := (HX0.out.start _).grown hgV
  replace HC : Hid (CommitsIs WV (.slice ca cs.length cc) cs) := HC.out.grown hgW
  replace G0 : w.grownBy WV none := grown_trans G0 hgW
  replace Bpp : Hid (WV.heap[ppB]? = some (.cells #[.slice p1 P.name.length p2, .slice p3 P.key.length p4, .slice p5 P.value.length p6, .bool P.gone] 58)) := pair_old hgW Bpp.out
  clear c0 c1 c2 f0 f1 f2 HWV hg2 hA2 BT0 HX0 htL hgV hgW
  have hk16 : k ≤ 16 := by omega
  obtain ⟨CA, hCA⟩ : ∃ CA, CA = clashL ⟨(k : Int), T.reads, T.writes⟩ cs := ⟨_, rfl⟩
  have CLA : Hid (∀ w' x, TxIs w' x ⟨(k : Int), T.reads, T.writes⟩ → CommitsIs w' (.slice ca cs.length cc) cs → Calls Try.prog 9 #[x, .slice ca cs.length cc] w' fun e w'' => e = .returned (.tuple #[.bool CA, .int .i64 0]) ∧ w'.grownBy w'' none) := fun w' x h1 h2 => by rw [hCA]; exact CL.out w' x _ _ cs h1 (HTK.out k (by omega)) h2 HFT.out
  obtain ⟨CC, hCC⟩ : ∃ CC, CC = clashL ⟨(k : Int) + 1, T.reads, T.writes⟩ cs := ⟨_, rfl⟩
  have CLL : Hid (∀ w' x, TxIs w' x ⟨(k : Int) + 1, T.reads, T.writes⟩ → CommitsIs w' (.slice ca cs.length cc) cs → Calls Try.prog 9 #[x, .slice ca cs.length cc] w' fun e w'' => e = .returned (.tuple #[.bool CC, .int .i64 0]) ∧ w'.grownBy w'' none) := fun w' x h1 h2 => by
    rw [hCC]
    have := HTK.out (k + 1) (by omega)
    rw [show ((k + 1 : Nat) : Int) = (k : Int) + 1 by omega] at this
    exact CL.out w' x _ _ cs h1 this h2 HFT.out
  have NT : Hid (∀ w' x y, TxIs w' x ⟨(k : Int), T.reads, T.writes⟩ → ReadIs w' y R → Calls Try.prog 15 #[x, y] w' fun e w'' => ∃ s1 s2 s3 s4, e = .returned (.tuple #[.agg #[.int .i64 (noteT ⟨(k : Int), T.reads, T.writes⟩ R).start, .slice s1 (noteT ⟨(k : Int), T.reads, T.writes⟩ R).reads.length s2, .slice s3 (noteT ⟨(k : Int), T.reads, T.writes⟩ R).writes.length s4], .int .i64 0]) ∧ TxIs w'' (.agg #[.int .i64 (noteT ⟨(k : Int), T.reads, T.writes⟩ R).start, .slice s1 (noteT ⟨(k : Int), T.reads, T.writes⟩ R).reads.length s2, .slice s3 (noteT ⟨(k : Int), T.reads, T.writes⟩ R).writes.length s4]) (noteT ⟨(k : Int), T.reads, T.writes⟩ R) ∧ w'.grownBy w'' none) := fun w' x y h1 h2 => NA.out k w' x y (by omega) h1 h2
  obtain ⟨nOK, nM, nS⟩ := HNM.out k (by omega)
  generalize noteT ⟨(k : Int), T.reads, T.writes⟩ R = TN at *
  obtain ⟨CB, hCB⟩ : ∃ CB, CB = clashL TN cs := ⟨_, rfl⟩
  have CLB : Hid (∀ w' x, TxIs w' x TN → CommitsIs w' (.slice ca cs.length cc) cs → Calls Try.prog 9 #[x, .slice ca cs.length cc] w' fun e w'' => e = .returned (.tuple #[.bool CB, .int .i64 0]) ∧ w'.grownBy w'' none) := fun w' x h1 h2 => by rw [hCB]; exact CL.out w' x _ TN cs h1 nOK h2 HFT.out
  have HAB : Hid (CA = true → CB = true) := fun h => by
    rw [hCA] at h
    rw [hCB]
    exact clash_more (t := ⟨(k : Int), T.reads, T.writes⟩) nM (by show TN.start ≤ (k : Int); omega) h
  have HCA : Hid (CC = true → CA = true) := fun h => by
    rw [hCC] at h
    rw [hCA]
    exact clash_more (t := ⟨(k : Int) + 1, T.reads, T.writes⟩) (u := ⟨(k : Int), T.reads, T.writes⟩) (fun _ h => h) (by show (k : Int) ≤ (k : Int) + 1; omega) h
  clear hCA hCC hCB nOK nM nS NA HNM HNT HTK
  obtain ⟨ttc0, ttc1, ttc2⟩ := trip_room (grown_refl _ none) Btt.out
  go_wp2_with fail
  refine (CLA.out _ _ HX.out HC.out).mono ?_
  rintro e w41 ⟨rfl, hg41⟩
  clear ttc0 ttc1 ttc2
  replace G0 : w.grownBy w41 none := grown_trans G0 hg41
  replace Bpp : Hid (w41.heap[ppB]? = some (.cells #[.slice p1 P.name.length p2, .slice p3 P.key.length p4, .slice p5 P.value.length p6, .bool P.gone] 58)) := pair_old hg41 Bpp.out
  replace Btt : Hid (w41.heap[ttB]? = some (.cells #[.int .i64 (k : Int), .slice t1 T.reads.length t2, .slice t3 T.writes.length t4] 28)) := pair_old hg41 Btt.out
  replace HC : Hid (CommitsIs w41 (.slice ca cs.length cc) cs) := HC.out.grown hg41
  replace HX : Hid (TxIs w41 (.agg #[.int .i64 (k : Int), .slice t1 T.reads.length t2, .slice t3 T.writes.length t4]) ⟨(k : Int), T.reads, T.writes⟩) := HX.out.grown hg41
  clear hg41
  go_upto_region 5 with fail
  have RC : Hid (∀ w', w41.grownBy w' none → Calls Try.prog 16 #[.agg #[.slice p1 P.name.length p2, .slice p3 P.key.length p4, .slice p5 P.value.length p6, .bool P.gone]] w' fun e w'' => ∃ y, e = .returned y ∧ ReadIs w'' y R ∧ w'.grownBy w'' none) := fun w' h => RC0.out w' (grown_trans G0 h)
  have H3 : Hid (TxIs w41 (.agg #[.int .i64 (k : Int), .slice t1 T.reads.length t2, .slice t3 T.writes.length t4]) ⟨(k : Int), T.reads, T.writes⟩) := HX.out
  obtain ⟨b0, b1, b2⟩ := trip_room (grown_refl _ none) Btt.out
  obtain ⟨⟨q0, q1, q2, q3⟩, _⟩ := quad_room (grown_refl _ none) Bpp.out
  go_cut [14, 15] (fun s6 s7 wx => ∃ (nb : Nat) (z1 : Option Addr) (z2 : Nat) (z3 : Option Addr) (z4 : Nat), s6 = .pointer (some ⟨nb, 0, none⟩) ∧ s7 = .int .i64 0 ∧ wx.heap[nb]? = some (.cells #[.int .i64 TN.start, .slice z1 TN.reads.length z2, .slice z3 TN.writes.length z4] 28) ∧ TxIs wx (.agg #[.int .i64 TN.start, .slice z1 TN.reads.length z2, .slice z3 TN.writes.length z4]) TN ∧ w41.grownBy wx none)
  case first =>
    have hgd := grown_drew (grown_refl w41 none)
    obtain ⟨WA, hWA⟩ : ∃ WA : World, WA = w41.alloc (.cells #[.int .i64 0, .slice none 0 0, .slice none 0 0] 28) := ⟨_, rfl⟩
    have hgA : w41.grownBy WA.drew none := by rw [hWA]; exact grown_drew (World.grownBy_alloc _ _ _)
    have HPA : Hid (WA.drew.heap[w41.heap.size]? = some (.cells #[.int .i64 0, .slice none 0 0, .slice none 0 0] 28)) := by rw [hWA]; exact heap_alloc_new w41 _
    have HWA : Hid (WA = w41.alloc (.cells #[.int .i64 0, .slice none 0 0, .slice none 0 0] 28)) := hWA
    clear hWA
    have hjz : ttB ≠ w41.heap.size := Nat.ne_of_lt (cell_ltK b0)
    have hqz : ppB ≠ w41.heap.size := Nat.ne_of_lt (cell_ltK q0)
    have e0 := hgd.cell b0 (by simp)
    have e1 := hgd.cell b1 (by simp)
    have e2 := hgd.cell b2 (by simp)
    have e3 := hgd.cell q0 (by simp)
    have e4 := hgd.cell q1 (by simp)
    have e5 := hgd.cell q2 (by simp)
    have e6 := hgd.cell q3 (by simp)
    have m0 := hgA.cell b0 (by simp)
    have m1 := hgA.cell b1 (by simp)
    have m2 := hgA.cell b2 (by simp)
    have m3 := hgA.cell q0 (by simp)
    have m4 := hgA.cell q1 (by simp)
    have m5 := hgA.cell q2 (by simp)
    have m6 := hgA.cell q3 (by simp)
    go_region_held3 (fun w' => w'.cell? ⟨ttB, 0, none⟩ = some (.int .i64 (k : Int)) ∧ w'.cell? ⟨ttB, 1, none⟩ = some (.slice t1 T.reads.length t2) ∧ w'.cell? ⟨ttB, 2, none⟩ = some (.slice t3 T.writes.length t4) ∧ w'.cell? ⟨ppB, 0, none⟩ = some (.slice p1 P.name.length p2) ∧ w'.cell? ⟨ppB, 1, none⟩ = some (.slice p3 P.key.length p4) ∧ w'.cell? ⟨ppB, 2, none⟩ = some (.slice p5 P.value.length p6) ∧ w'.cell? ⟨ppB, 3, none⟩ = some (.bool P.gone))
      (first | with_reducible exact ⟨e0, e1, e2, e3, e4, e5, e6⟩ | (rw [← HWA.out]; with_reducible exact ⟨m0, m1, m2, m3, m4, m5, m6⟩) | with_reducible exact ⟨k0, k1, k2, k3, k4, k5, k6⟩ | with_reducible exact ⟨(World.grownBy_alloc _ _ none).cell k0 (by simp), (World.grownBy_alloc _ _ none).cell k1 (by simp), (World.grownBy_alloc _ _ none).cell k2 (by simp), (World.grownBy_alloc _ _ none).cell k3 (by simp), (World.grownBy_alloc _ _ none).cell k4 (by simp), (World.grownBy_alloc _ _ none).cell k5 (by simp), (World.grownBy_alloc _ _ none).cell k6 (by simp)⟩ | with_reducible exact ⟨cell_trip k0 hjz _ _ _, cell_trip k1 hjz _ _ _, cell_trip k2 hjz _ _ _, cell_trip k3 hqz _ _ _, cell_trip k4 hqz _ _ _, cell_trip k5 hqz _ _ _, cell_trip k6 hqz _ _ _⟩ | with_reducible exact ⟨cell_trip k0 hjy _ _ _, cell_trip k1 hjy _ _ _, cell_trip k2 hjy _ _ _, cell_trip k3 hqy _ _ _, cell_trip k4 hqy _ _ _, cell_trip k5 hqy _ _ _, cell_trip k6 hqy _ _ _⟩ | with_reducible exact ⟨j0, j1, j2, j3, j4, j5, j6⟩ | (rw [← HWB.out]; with_reducible exact ⟨l0, l1, l2, l3, l4, l5, l6⟩))
      (first
        | (go_at_call 16
           first
             | (rw [← HWA.out]; with_reducible refine (RC.out _ hgA).mono ?_
                rintro e w5 ⟨x, rfl, h5, hg5⟩
                have hgm : w41.grownBy w5 none := grown_trans hgA hg5
                have HPB : Hid (w5.heap[w41.heap.size]? = some (.cells #[.int .i64 0, .slice none 0 0, .slice none 0 0] 28)) := pair_old hg5 HPA.out)
             | (with_reducible refine (RC.out _ hgd).mono ?_
                rintro e w5 ⟨x, rfl, h5, hg5⟩
                have hgm : w41.grownBy w5 none := grown_trans hgd hg5)
           have H5 : Hid (ReadIs w5 x R) := h5
           have hjy : ttB ≠ w5.heap.size := Nat.ne_of_lt (Nat.lt_of_lt_of_le (cell_ltK b0) hgm.size)
           have hqy : ppB ≠ w5.heap.size := Nat.ne_of_lt (Nat.lt_of_lt_of_le (cell_ltK q0) hgm.size)
           obtain ⟨WB, hWB⟩ : ∃ WB : World, WB = w5.alloc (.cells #[.int .i64 0, .slice none 0 0, .slice none 0 0] 28) := ⟨_, rfl⟩
           have hgB : w5.grownBy WB none := by rw [hWB]; exact World.grownBy_alloc _ _ _
           have HPD : Hid (WB.heap[w5.heap.size]? = some (.cells #[.int .i64 0, .slice none 0 0, .slice none 0 0] 28)) := by rw [hWB]; exact heap_alloc_new w5 _
           have HWB : Hid (WB = w5.alloc (.cells #[.int .i64 0, .slice none 0 0, .slice none 0 0] 28)) := hWB
           have hgmB := grown_trans hgm hgB
           have j0 := hgm.cell b0 (by simp)
           have j1 := hgm.cell b1 (by simp)
           have j2 := hgm.cell b2 (by simp)
           have j3 := hgm.cell q0 (by simp)
           have j4 := hgm.cell q1 (by simp)
           have j5 := hgm.cell q2 (by simp)
           have j6 := hgm.cell q3 (by simp)
           have l0 := hgmB.cell b0 (by simp)
           have l1 := hgmB.cell b1 (by simp)
           have l2 := hgmB.cell b2 (by simp)
           have l3 := hgmB.cell q0 (by simp)
           have l4 := hgmB.cell q1 (by simp)
           have l5 := hgmB.cell q2 (by simp)
           have l6 := hgmB.cell q3 (by simp)
           clear h5 hWB)
        | (go_at_call 15
           first
             | (rw [← HWB.out]; with_reducible refine (NT.out _ _ _ (H3.out.grown hgmB) (H5.out.grown hgB)).mono ?_
                rintro e w6 ⟨z1, z2, z3, z4, rfl, h6, hg6⟩
                have hgn : w41.grownBy w6 none := grown_trans hgmB hg6
                have HPE : Hid (w6.heap[w5.heap.size]? = some (.cells #[.int .i64 0, .slice none 0 0, .slice none 0 0] 28)) := pair_old hg6 HPD.out
                have hpe := trip_room2 HPE.out
                obtain ⟨⟨u0, u1, u2⟩, u3, u4, u5⟩ := hpe)
             | (with_reducible refine (NT.out _ _ _ (H3.out.grown hgm) H5.out).mono ?_
                rintro e w6 ⟨z1, z2, z3, z4, rfl, h6, hg6⟩
                have hgn : w41.grownBy w6 none := grown_trans hgm hg6
                first
                  | (have HPC : Hid (w6.heap[w41.heap.size]? = some (.cells #[.int .i64 0, .slice none 0 0, .slice none 0 0] 28)) := pair_old hg6 HPB.out
                     have hpc := trip_room2 HPC.out
                     obtain ⟨⟨u0, u1, u2⟩, u3, u4, u5⟩ := hpc)
                  | skip)
           have H6 : Hid (TxIs w6 (.agg #[.int .i64 TN.start, .slice z1 TN.reads.length z2, .slice z3 TN.writes.length z4]) TN) := h6
           have k0 := hgn.cell b0 (by simp)
           have k1 := hgn.cell b1 (by simp)
           have k2 := hgn.cell b2 (by simp)
           have k3 := hgn.cell q0 (by simp)
           have k4 := hgn.cell q1 (by simp)
           have k5 := hgn.cell q2 (by simp)
           have k6 := hgn.cell q3 (by simp)
           clear h6))
    all_goals (go_wp2_with fail; go_meet; case rel =>
      first
        | exact ⟨w6.heap.size, z1, z2, z3, z4, rfl, rfl, heap_alloc_new w6 _, H6.out.grown (World.grownBy_alloc _ _ none), grown_alloc hgn _⟩
        | exact ⟨w41.heap.size, z1, z2, z3, z4, rfl, rfl, trip_set HPC.out _ _ _, H6.out.setTrip HPC.out (noByte_tx _ _ _ _ _ _ _) _ _ _, grown_setNew (grown_setNew (grown_setNew hgn _ (Nat.le_refl _) _ _) _ (Nat.le_refl _) _ _) _ (Nat.le_refl _) _ _⟩
        | exact ⟨w5.heap.size, z1, z2, z3, z4, rfl, rfl, trip_set HPE.out _ _ _, H6.out.setTrip HPE.out (noByte_tx _ _ _ _ _ _ _) _ _ _, grown_setNew (grown_setNew (grown_setNew hgn _ hgm.size _ _) _ hgm.size _ _) _ hgm.size _ _⟩)
  case rest =>
    obtain ⟨mmB, m1, m2, m3, m4, rfl, rfl, hnb, hx, hgx⟩ := hcut
    have Bmm : Hid (wc.heap[mmB]? = some (.cells #[.int .i64 TN.start, .slice m1 TN.reads.length m2, .slice m3 TN.writes.length m4] 28)) := hnb
    have HM : Hid (TxIs wc (.agg #[.int .i64 TN.start, .slice m1 TN.reads.length m2, .slice m3 TN.writes.length m4]) TN) := hx
    replace G0 : w.grownBy wc none := grown_trans G0 hgx
    replace Bpp : Hid (wc.heap[ppB]? = some (.cells #[.slice p1 P.name.length p2, .slice p3 P.key.length p4, .slice p5 P.value.length p6, .bool P.gone] 58)) := pair_old hgx Bpp.out
    replace Btt : Hid (wc.heap[ttB]? = some (.cells #[.int .i64 (k : Int), .slice t1 T.reads.length t2, .slice t3 T.writes.length t4] 28)) := pair_old hgx Btt.out
    replace HC : Hid (CommitsIs wc (.slice ca cs.length cc) cs) := HC.out.grown hgx
    replace HX : Hid (TxIs wc (.agg #[.int .i64 (k : Int), .slice t1 T.reads.length t2, .slice t3 T.writes.length t4]) ⟨(k : Int), T.reads, T.writes⟩) := HX.out.grown hgx
    clear hnb hx hgx b0 b1 b2 q0 q1 q2 q3 RC RC0 H3 NT
    obtain ⟨mmc0, mmc1, mmc2⟩ := trip_room (grown_refl _ none) Bmm.out
    go_wp2_with fail
    refine (CLB.out _ _ HM.out HC.out).mono ?_
    rintro e w42 ⟨rfl, hg42⟩
    clear mmc0 mmc1 mmc2
    replace G0 : w.grownBy w42 none := grown_trans G0 hg42
    replace Bpp : Hid (w42.heap[ppB]? = some (.cells #[.slice p1 P.name.length p2, .slice p3 P.key.length p4, .slice p5 P.value.length p6, .bool P.gone] 58)) := pair_old hg42 Bpp.out
    replace Btt : Hid (w42.heap[ttB]? = some (.cells #[.int .i64 (k : Int), .slice t1 T.reads.length t2, .slice t3 T.writes.length t4] 28)) := pair_old hg42 Btt.out
    replace Bmm : Hid (w42.heap[mmB]? = some (.cells #[.int .i64 TN.start, .slice m1 TN.reads.length m2, .slice m3 TN.writes.length m4] 28)) := pair_old hg42 Bmm.out
    replace HC : Hid (CommitsIs w42 (.slice ca cs.length cc) cs) := HC.out.grown hg42
    replace HX : Hid (TxIs w42 (.agg #[.int .i64 (k : Int), .slice t1 T.reads.length t2, .slice t3 T.writes.length t4]) ⟨(k : Int), T.reads, T.writes⟩) := HX.out.grown hg42
    replace HM : Hid (TxIs w42 (.agg #[.int .i64 TN.start, .slice m1 TN.reads.length m2, .slice m3 TN.writes.length m4]) TN) := HM.out.grown hg42
    clear hg42
    go_upto_region 7 with fail
    obtain ⟨WU, HWU, hAU, BU⟩ := alloc_namedX w42 (.cells #[.int .i64 (k : Int), .slice t1 T.reads.length t2, .slice t3 T.writes.length t4] 28)
    obtain ⟨ttc0, ttc1, ttc2⟩ := trip_room (grown_refl _ none) Btt.out
    go_upto_region 8 with fail
    rw [← HWU.out]
    obtain ⟨llB, hllB⟩ : ∃ llB, llB = w42.heap.size := ⟨_, rfl⟩
    have hlL : w42.heap.size ≤ llB := by omega
    rw [← hllB] at BU ⊢
    clear hllB HWU ttc0 ttc1 ttc2
    obtain ⟨⟨uc0, uc1, uc2⟩, uf0, uf1, uf2⟩ := trip_room2 BU.out
    obtain ⟨WL, hWL⟩ : ∃ WL, WL = WU.setCell ⟨llB, 0, none⟩ (.int .i64 ((k : Int) + 1)) := ⟨_, rfl⟩
    have Bll : Hid (WL.heap[llB]? = some (.cells #[.int .i64 ((k : Int) + 1), .slice t1 T.reads.length t2, .slice t3 T.writes.length t4] 28)) := by show _ = _; rw [hWL]; exact set_self BU.out
    have hgL : w42.grownBy WL none := by rw [hWL]; exact grown_setNew hAU llB hlL _ _
    have HWL : Hid (WL = WU.setCell ⟨llB, 0, none⟩ (.int .i64 ((k : Int) + 1))) := hWL
    clear hWL
    go_upto_region 9 with fail
    rw [← HWL.out]
    have HLX : Hid (TxIs WL (.agg #[.int .i64 ((k : Int) + 1), .slice t1 T.reads.length t2, .slice t3 T.writes.length t4]) ⟨(k : Int) + 1, T.reads, T.writes⟩) := (HX.out.grown hgL).start _
    replace G0 : w.grownBy WL none := grown_trans G0 hgL
    replace Bpp : Hid (WL.heap[ppB]? = some (.cells #[.slice p1 P.name.length p2, .slice p3 P.key.length p4, .slice p5 P.value.length p6, .bool P.gone] 58)) := pair_old hgL Bpp.out
    replace Btt : Hid (WL.heap[ttB]? = some (.cells #[.int .i64 (k : Int), .slice t1 T.reads.length t2, .slice t3 T.writes.length t4] 28)) := pair_old hgL Btt.out
    replace Bmm : Hid (WL.heap[mmB]? = some (.cells #[.int .i64 TN.start, .slice m1 TN.reads.length m2, .slice m3 TN.writes.length m4] 28)) := pair_old hgL Bmm.out
    replace HC : Hid (CommitsIs WL (.slice ca cs.length cc) cs) := HC.out.grown hgL
    replace HX : Hid (TxIs WL (.agg #[.int .i64 (k : Int), .slice t1 T.reads.length t2, .slice t3 T.writes.length t4]) ⟨(k : Int), T.reads, T.writes⟩) := HX.out.grown hgL
    replace HM : Hid (TxIs WL (.agg #[.int .i64 TN.start, .slice m1 TN.reads.length m2, .slice m3 TN.writes.length m4]) TN) := HM.out.grown hgL
    clear uc0 uc1 uc2 uf0 uf1 uf2 HWL BU hAU hgL hlL
    obtain ⟨llc0, llc1, llc2⟩ := trip_room (grown_refl _ none) Bll.out
    go_wp2_with fail
    refine (CLL.out _ _ HLX.out HC.out).mono ?_
    rintro e w43 ⟨rfl, hg43⟩
    clear llc0 llc1 llc2
    replace G0 : w.grownBy w43 none := grown_trans G0 hg43
    replace Bpp : Hid (w43.heap[ppB]? = some (.cells #[.slice p1 P.name.length p2, .slice p3 P.key.length p4, .slice p5 P.value.length p6, .bool P.gone] 58)) := pair_old hg43 Bpp.out
    replace Btt : Hid (w43.heap[ttB]? = some (.cells #[.int .i64 (k : Int), .slice t1 T.reads.length t2, .slice t3 T.writes.length t4] 28)) := pair_old hg43 Btt.out
    replace Bmm : Hid (w43.heap[mmB]? = some (.cells #[.int .i64 TN.start, .slice m1 TN.reads.length m2, .slice m3 TN.writes.length m4] 28)) := pair_old hg43 Bmm.out
    replace Bll : Hid (w43.heap[llB]? = some (.cells #[.int .i64 ((k : Int) + 1), .slice t1 T.reads.length t2, .slice t3 T.writes.length t4] 28)) := pair_old hg43 Bll.out
    replace HC : Hid (CommitsIs w43 (.slice ca cs.length cc) cs) := HC.out.grown hg43
    replace HX : Hid (TxIs w43 (.agg #[.int .i64 (k : Int), .slice t1 T.reads.length t2, .slice t3 T.writes.length t4]) ⟨(k : Int), T.reads, T.writes⟩) := HX.out.grown hg43
    replace HM : Hid (TxIs w43 (.agg #[.int .i64 TN.start, .slice m1 TN.reads.length m2, .slice m3 TN.writes.length m4]) TN) := HM.out.grown hg43
    replace HLX : Hid (TxIs w43 (.agg #[.int .i64 ((k : Int) + 1), .slice t1 T.reads.length t2, .slice t3 T.writes.length t4]) ⟨(k : Int) + 1, T.reads, T.writes⟩) := HLX.out.grown hg43
    clear hg43
    clear HX HM HLX HC Btt Bmm Bll CLA CLB CLL
    obtain ⟨⟨ppc0, ppc1, ppc2, ppc3⟩, _⟩ := quad_room (grown_refl _ none) Bpp.out
    go_wp2_with fail
    refine (KP.out _ G0).mono ?_
    rintro e w44 ⟨q1, q2, q3, q4, q5, q6, rfl, h1, h2, h3, hg44⟩
    clear ppc0 ppc1 ppc2 ppc3
    obtain ⟨W44, HW44, hA44, Bqq⟩ := alloc_namedX w44 (.cells #[.slice q1 Q.name.length q2, .slice q3 Q.key.length q4, .bool Q.gone, .slice q5 Q.value.length q6] 53)
    have hs44 := grown_trans hg44 hA44
    have HQ1 : Hid (SliceIs W44 (.slice q1 Q.name.length q2) Q.name) := h1.grown hA44
    have HQ2 : Hid (SliceIs W44 (.slice q3 Q.key.length q4) Q.key) := h2.grown hA44
    have HQ3 : Hid (SliceIs W44 (.slice q5 Q.value.length q6) Q.value) := h3.grown hA44
    replace G0 : w.grownBy W44 none := grown_trans G0 hs44
    replace Bpp : Hid (W44.heap[ppB]? = some (.cells #[.slice p1 P.name.length p2, .slice p3 P.key.length p4, .slice p5 P.value.length p6, .bool P.gone] 58)) := pair_old hs44 Bpp.out
    clear h1 h2 h3
    go_upto_region 11 with fail
    rw [← HW44.out]
    obtain ⟨qqB, hqqB⟩ : ∃ qqB, qqB = w44.heap.size := ⟨_, rfl⟩
    rw [← hqqB] at Bqq ⊢
    clear hqqB HW44 hs44 hA44 hg44
    obtain ⟨⟨qqc0, qqc1, qqc2, qqc3⟩, _⟩ := quad_room (grown_refl _ none) Bqq.out
    go_wp2_with fail
    refine (NS.out _ _ _ (txIs_no _) ⟨_, _, _, rfl, HQ1.out, HQ2.out, sliceIs_nil _⟩).mono ?_
    rintro e w45 ⟨s1, s2, s3, s4, rfl, h, hg45⟩
    clear qqc0 qqc1 qqc2 qqc3
    obtain ⟨W45, HW45, hA45, Bss⟩ := alloc_namedX w45 (.cells #[.int .i64 TS.start, .slice s1 TS.reads.length s2, .slice s3 TS.writes.length s4] 28)
    have hs45 := grown_trans hg45 hA45
    have HS : Hid (TxIs W45 (.agg #[.int .i64 TS.start, .slice s1 TS.reads.length s2, .slice s3 TS.writes.length s4]) TS) := h.grown hA45
    replace G0 : w.grownBy W45 none := grown_trans G0 hs45
    replace Bpp : Hid (W45.heap[ppB]? = some (.cells #[.slice p1 P.name.length p2, .slice p3 P.key.length p4, .slice p5 P.value.length p6, .bool P.gone] 58)) := pair_old hs45 Bpp.out
    replace Bqq : Hid (W45.heap[qqB]? = some (.cells #[.slice q1 Q.name.length q2, .slice q3 Q.key.length q4, .bool Q.gone, .slice q5 Q.value.length q6] 53)) := pair_old hs45 Bqq.out
    replace HQ1 : Hid (SliceIs W45 (.slice q1 Q.name.length q2) Q.name) := HQ1.out.grown hs45
    replace HQ2 : Hid (SliceIs W45 (.slice q3 Q.key.length q4) Q.key) := HQ2.out.grown hs45
    replace HQ3 : Hid (SliceIs W45 (.slice q5 Q.value.length q6) Q.value) := HQ3.out.grown hs45
    clear h
    go_upto_region 12 with fail
    rw [← HW45.out]
    obtain ⟨ssB, hssB⟩ : ∃ ssB, ssB = w45.heap.size := ⟨_, rfl⟩
    rw [← hssB] at Bss ⊢
    clear hssB HW45 hs45 hA45 hg45
    obtain ⟨WQ, hWQ⟩ : ∃ WQ : World, WQ = (W45.alloc (.cells #[.slice q1 Q.name.length q2, .slice q3 Q.key.length q4, .bool Q.gone, .slice q5 Q.value.length q6] 53)).alloc (.cells #[.int .i64 1, .slice (some ⟨W45.heap.size, 0, none⟩) 1 1] 55) := ⟨_, rfl⟩
    obtain ⟨hcl9, hgQ⟩ := commit_lit W45 _ _ _ _ _ Q HQ1.out HQ2.out HQ3.out WQ hWQ
    have HWQ : Hid (WQ = (W45.alloc (.cells #[.slice q1 Q.name.length q2, .slice q3 Q.key.length q4, .bool Q.gone, .slice q5 Q.value.length q6] 53)).alloc (.cells #[.int .i64 1, .slice (some ⟨W45.heap.size, 0, none⟩) 1 1] 55)) := hWQ
    have CLS : Hid (Calls Try.prog 9 #[.agg #[.int .i64 TS.start, .slice s1 TS.reads.length s2, .slice s3 TS.writes.length s4], .slice (some ⟨W45.heap.size + 1, 0, none⟩) 1 1] WQ fun e w'' => e = .returned (.tuple #[.bool true, .int .i64 0]) ∧ WQ.grownBy w'' none) := by
      have := CL.out WQ _ _ TS _ (HS.out.grown hgQ) HSO.out hcl9 HQF.out
      rw [HSC.out] at this
      exact this
    clear hWQ hcl9 HQ1 HQ2 HQ3 HS CL
    obtain ⟨ssc0, ssc1, ssc2⟩ := trip_room (grown_refl _ none) Bss.out
    obtain ⟨⟨qqc0, qqc1, qqc2, qqc3⟩, _⟩ := quad_room (grown_refl _ none) Bqq.out
    go_wp2_with fail
    rw [← HWQ.out]
    refine CLS.out.mono ?_
    rintro e w30 ⟨rfl, hg30⟩
    have hgz := grown_trans G0 (grown_trans hgQ hg30)
    clear ssc0 ssc1 ssc2 qqc0 qqc1 qqc2 qqc3 CLS HWQ
    cases CA with
    | true =>
      obtain rfl : CB = true := HAB.out rfl
      cases CC with
      | true =>
        go_wp2
        go_ret
        exact ⟨rfl, hgz⟩
      | false =>
        go_wp2
        go_ret
        exact ⟨rfl, hgz⟩
    | false =>
      cases CC with
      | true =>
        have := HCA.out rfl
        cases this
      | false =>
        go_wp2
        go_ret
        exact ⟨rfl, hgz⟩
end Go.Proofs.Ytpmfbfflacbmjac
