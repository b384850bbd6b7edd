/-
  The walk of canopykeep.TapeOn, over what the code must keep.
-/
import Derived.Test.YtkheombfjgjedacDoorPart20
import Derived.Test.YtkheombfjgjedacDoorLTKw
import Derived.Test.YtkheombfjgjedacDoorKBegins
import Derived.Test.YtkheombfjgjedacDoorPicked
namespace Go.Proofs.YtkheombfjgjedacDoor
open Go.RowKit
set_option maxRecDepth 100000 in
set_option maxHeartbeats 4000000 in
theorem tapeOn_walk (hF : FApplyNewOK) (hA : TpAppOK) (hR : TpRecOK) (hC : TpCrashOK) (w : World) (v u : Value) (l : List Plc) (p : Plc) (keep : Int) (hv : PlacesIs w v l) (hu : PlaceIs w u p) (hl : FitsQ l) (hp : PlcFits p) (hn0 : -9223372036854775808 ≤ keep) (hn1 : keep ≤ 9223372036854775807) (ht : Tabs w) :
    Calls Tryd.prog 5 #[v, u, .int .i64 keep] w fun e w' => e = .returned (.bool true) ∧ w.grownBy w' none := by
  obtain ⟨a, cap, rfl⟩ := hv.shape
  obtain ⟨na, nc, ka, kc, va, vc, rfl⟩ := hu.cellsT
  obtain ⟨W0, HW0, hg0, B0⟩ := alloc_named7 w (.cells #[.slice na p.name.length nc, .slice ka p.key.length kc, .slice va p.value.length vc, .bool p.gone] 46)
  have KC : Hid (Calls Tryd.prog 8 #[.slice a l.length cap, .int .i64 12] W0 fun e w' => ∃ v', e = .returned v' ∧ ∃ cs, CommitsIs w' v' cs ∧ (∃ f, CmtsOf ((l.take 12).map writeF) ((l.take 12).map writeF).length cs f) ∧ W0.grownBy w' none) := kcommits_any hF W0 _ l 12 (hv.grown hg0) hl (by omega)
  have WR : Hid (∀ w', W0.grownBy w' none → Calls Tryd.prog 17 #[.agg #[.slice na p.name.length nc, .slice ka p.key.length kc, .slice va p.value.length vc, .bool p.gone]] w' fun e w'' => ∃ na nc ka kc va vc, e = .returned (.agg #[.slice na (writeF p).name.length nc, .slice ka (writeF p).key.length kc, .bool (writeF p).gone, .slice va (writeF p).value.length vc]) ∧ SliceIs w'' (.slice na (writeF p).name.length nc) (writeF p).name ∧ SliceIs w'' (.slice ka (writeF p).key.length kc) (writeF p).key ∧ SliceIs w'' (.slice va (writeF p).value.length vc) (writeF p).value ∧ w'.grownBy w'' none) := fun w' hg => write_ofT w' _ p ((hu.grown hg0).grown hg) hp
  have PK : Hid (∀ w', Calls Tryd.prog 9 #[.int .i64 keep, .int .i64 200] w' fun e w'' => ∃ k : Nat, e = .returned (.int .i64 (k : Int)) ∧ (k : Int) < 200 ∧ w'' = w') := fun w' => picked_any keep 200 w' hn0 hn1 (by omega) (by omega)
  have hwE := writeF_ok p
  have HA : Hid TpAppOK := hA
  have HR : Hid TpRecOK := hR
  have HCr : Hid TpCrashOK := hC
  have HT : Hid (Tabs W0) := ht.grownNone hg0
  generalize writeF p = Q at *
  generalize p.name.length = pn at *
  generalize p.key.length = pk at *
  generalize p.value.length = pv at *
  generalize p.gone = pg at *
  clear hv hl hF hA hR hC ht hu hp
  go_enter Tryd.func5, Tryd.ntmps5
  go_upto_region 1 with fail
  rw [← HW0.out]
  go_wp2_with fail
  refine KC.out.mono ?_
  rintro e w1 ⟨v1, rfl, cs, h1, hco, hg1⟩
  obtain ⟨hi, hcl, hne, hfl, hws⟩ := cmts_facts (by omega) hco
  obtain ⟨ca, cc, rfl⟩ := h1.shape
  have TD : Hid (Calls Tryd.prog 10 #[.slice ca cs.length cc] w1 fun e w' => ∃ xa xc, e = .returned (.tuple #[.agg #[.slice xa (flatT fourF cs).length xc, .int .i64 0], .bool true]) ∧ SliceIs w' (.slice xa (flatT fourF cs).length xc) (flatT fourF cs) ∧ w1.grownBy w' none) := taped_call HA.out w1 _ cs h1 hi (by omega) (HT.out.grownNone hg1)
  have hdl : (flatT fourF cs).length ≤ 10000 := by omega
  have HIT : Hid (InTurn 1 cs) := hi
  have HWS : Hid (∀ i, i < cs.length → (cs.getD i noCmt).writes.length ≤ 1000000) := hws
  have CR : Hid (∀ w' x (k : Nat), (k : Int) < 200 → TapeIs w' x ⟨flatT fourF cs, 0⟩ → Calls Tryd.prog 13 #[x, .int .i64 (k : Int)] w' fun e w'' => ∃ xa xc, e = .returned (.tuple #[.agg #[.slice xa (crN ⟨flatT fourF cs, 0⟩ k) xc, .int .i64 (crN ⟨flatT fourF cs, 0⟩ k : Int)], .int .i64 0]) ∧ SliceIs w'' (.slice xa (crN ⟨flatT fourF cs, 0⟩ k) xc) ((flatT fourF cs).take (crN ⟨flatT fourF cs, 0⟩ k)) ∧ w'.grownBy w'' none) := fun w' x k hk hx => crash_call HCr.out w' x ⟨flatT fourF cs, 0⟩ k hx (by show (flatT fourF cs).length ≤ _; omega) (by show (0 : Int) ≤ 0 ∧ (0 : Int) ≤ ((flatT fourF cs).length : Int); omega) (by omega)
  have HCN : Hid (∀ k, crN ⟨flatT fourF cs, 0⟩ k ≤ (flatT fourF cs).length) := fun k => (crN_le (t := ⟨flatT fourF cs, 0⟩) (by show (0 : Int) ≤ 0 ∧ (0 : Int) ≤ ((flatT fourF cs).length : Int); omega) k).1
  obtain ⟨D, hD⟩ : ∃ D, D = flatT fourF cs := ⟨_, rfl⟩
  have HD : Hid (D = flatT fourF cs) := hD
  rw [← hD] at TD CR HCN hdl
  clear h1 hco hws hi hne hD hfl HCr
  go_wp2_with fail
  refine TD.out.mono ?_
  rintro e w2 ⟨ta, tc, rfl, h2, hg2⟩
  obtain ⟨W2, HW2, hgA2, B2⟩ := alloc_named7 w2 (.cells #[.slice ta D.length tc, .int .i64 0] 28)
  have HT2 : Hid (TapeIs W2 (.agg #[.slice ta D.length tc, .int .i64 0]) ⟨D, 0⟩) := ⟨_, rfl, h2.grown hgA2⟩
  have hg12 := grown_trans hg2 hgA2
  have hz2 := hg2.size
  clear h2 TD
  go_upto_region 3 with fail
  rw [← HW2.out]
  obtain ⟨c0, c1, _, _⟩ := pair_room (grown_refl W2 none) B2.out
  go_cut [10] from 20 (fun s10 wx => ∃ (n : Nat) (xa : Option Addr) (xc : Nat), s10 = .int .i64 0 ∧ n ≤ D.length ∧ wx.heap[w2.heap.size]? = some (.cells #[.slice xa n xc, .int .i64 (n : Int)] 28) ∧ SliceIs wx (.slice xa n xc) (D.take n) ∧ w1.grownBy wx none)
  case first =>
    have hgd := grown_drew (grown_refl W2 none)
    go_region_with (first
      | (go_at_call 9; refine (PK.out _).mono ?_; rintro e wp ⟨k, rfl, hk, rfl⟩)
      | (go_at_call 13; refine (CR.out _ _ k hk (HT2.out.grown hgd)).mono ?_; rintro e w3 ⟨xa, xc, rfl, h3, hg3⟩; have hgm := grown_trans hgd hg3; obtain ⟨s0, s1, s2, s3⟩ := pair_room hgm B2.out; have HB3 : Hid (w3.heap[w2.heap.size]? = some (.cells #[.slice ta D.length tc, .int .i64 0] 28)) := pair_old hgm B2.out; have HX3 : Hid (SliceIs w3 (.slice xa (crN ⟨D, 0⟩ k) xc) (D.take (crN ⟨D, 0⟩ k))) := h3; clear h3))
    all_goals (go_wp2_with fail; go_meet; case rel => exact ⟨crN ⟨D, 0⟩ k, xa, xc, rfl, HCN.out k, two_setT HB3.out _ _, HX3.out.setPair HB3.out (fun q => by simp) (fun q => by simp) _ _, grown_setNew (grown_setNew (grown_trans hg12 hgm) _ hz2 _ _) _ hz2 _ _⟩)
  case rest =>
    obtain ⟨n, xa, xc, rfl, hnD, htb, hsx, hgx⟩ := hcut
    have hg0x := grown_trans hg1 hgx
    obtain ⟨j, q1, q2, q3, q4, q5, q6⟩ := rec_crash (D := fourF) fourF_len HIT.out n (by rw [← HD.out]; exact hnD) (by rw [← HD.out]; omega)
    rw [← HD.out] at q4 q5 q6
    have hjl : (cs.take j).length = j := by simp; omega
    have hit2 := HIT.out.take j
    have htd : ∀ i, i < j → (cs.take j).getD i noCmt = cs.getD i noCmt := fun i hi => by simp [List.getD_eq_getElem?_getD, hi]
    have HW2s : Hid (∀ i, i < j → ((cs.take j).getD i noCmt).writes.length ≤ 1000000) := fun i hi => by rw [htd i hi]; exact HWS.out i (by omega)
    have R1 : Hid (∀ w' x, W0.grownBy w' none → TapeIs w' x ⟨D.take n, (n : Int)⟩ → Calls Tryd.prog 14 #[x] w' fun e w'' => ∃ va vc xa xc, e = .returned (.tuple #[.slice va (cs.take j).length vc, .agg #[.slice xa (flatT fourF (cs.take j)).length xc, .int .i64 ((flatT fourF (cs.take j)).length : Int)], .int .i64 0]) ∧ CommitsIs w'' (.slice va (cs.take j).length vc) (cs.take j) ∧ SliceIs w'' (.slice xa (flatT fourF (cs.take j)).length xc) (flatT fourF (cs.take j)) ∧ w'.grownBy w'' none) := fun w' x hg hx => rec_call HR.out w' x _ ⟨flatT fourF (cs.take j), ((flatT fourF (cs.take j)).length : Int)⟩ (cs.take j) hx (by show (D.take n).length ≤ _; simp; omega) (by show (0 : Int) ≤ (n : Int) ∧ (n : Int) ≤ 200000; omega) (HT.out.grownNone hg) q4 q5 q6
    have hul : (flatT fourF (cs.take j)).length ≤ 10000 := by omega
    have hce : commitE ⟨(j : Int) + 1, [Q]⟩ = 0 := (commit_iff _).2 ⟨by show 1 ≤ (j : Int) + 1 ∧ (j : Int) + 1 ≤ 1048576; omega, by simp, fun x hx => by
      simp only [List.mem_cons, List.not_mem_nil, or_false] at hx
      subst hx; exact hwE⟩
    obtain ⟨e1, e2⟩ := app_next (D := fourF) fourF_len (t := ⟨flatT fourF (cs.take j), ((flatT fourF (cs.take j)).length : Int)⟩) hce (by show (0 : Int) ≤ ((flatT fourF (cs.take j)).length : Int) ∧ ((flatT fourF (cs.take j)).length : Int) ≤ ((flatT fourF (cs.take j)).length : Int); omega) (by show (flatT fourF (cs.take j)).length ≤ 190000; omega)
    have hfr := frame_grows fourF_len hce
    obtain ⟨r1, r2⟩ := rec_more (D := fourF) fourF_len hit2 hce ((flatT fourF (cs.take j)).length : Int) (by omega) (by omega)
    rw [if_pos (by show (j : Int) + 1 = (((cs.take j).length + 1 : Nat) : Int); rw [hjl]; omega)] at r2
    have AP : Hid (∀ w' x y, W0.grownBy w' none → TapeIs w' x ⟨flatT fourF (cs.take j), ((flatT fourF (cs.take j)).length : Int)⟩ → CommitIs w' y ⟨(j : Int) + 1, [Q]⟩ → Calls Tryd.prog 12 #[x, y] w' fun e w'' => ∃ xa xc, e = .returned (.tuple #[.agg #[.slice xa (flatT fourF (cs.take j) ++ frameB fourF ⟨(j : Int) + 1, [Q]⟩).length xc, .int .i64 ((flatT fourF (cs.take j)).length : Int)], .int .i64 0]) ∧ SliceIs w'' (.slice xa (flatT fourF (cs.take j) ++ frameB fourF ⟨(j : Int) + 1, [Q]⟩).length xc) (flatT fourF (cs.take j) ++ frameB fourF ⟨(j : Int) + 1, [Q]⟩) ∧ w'.grownBy w'' none) := fun w' x y hg hx hy => app_call HA.out w' x y _ _ _ 0 hx hy (by show (flatT fourF (cs.take j)).length ≤ _; omega) (by show (0 : Int) ≤ ((flatT fourF (cs.take j)).length : Int) ∧ ((flatT fourF (cs.take j)).length : Int) ≤ 200000; omega) (commit_fits hce) (HT.out.grownNone hg) e1 e2
    obtain ⟨F, hF⟩ : ∃ F, F = flatT fourF (cs.take j) ++ frameB fourF ⟨(j : Int) + 1, [Q]⟩ := ⟨_, rfl⟩
    have hFl : F.length ≤ 20000 := by rw [hF, List.length_append]; omega
    rw [← hF] at AP r1 r2
    obtain ⟨R, hRR⟩ : ∃ R, R = recT fourF ⟨F, ((flatT fourF (cs.take j)).length : Int)⟩ := ⟨_, rfl⟩
    have R2 : Hid (∀ w' x, W0.grownBy w' none → TapeIs w' x ⟨F, ((flatT fourF (cs.take j)).length : Int)⟩ → Calls Tryd.prog 14 #[x] w' fun e w'' => ∃ va vc xa xc, e = .returned (.tuple #[.slice va (cs.take j ++ [(⟨(j : Int) + 1, [Q]⟩ : Cmt)]).length vc, .agg #[.slice xa R.data.length xc, .int .i64 R.synced], .int .i64 0]) ∧ CommitsIs w'' (.slice va (cs.take j ++ [(⟨(j : Int) + 1, [Q]⟩ : Cmt)]).length vc) (cs.take j ++ [(⟨(j : Int) + 1, [Q]⟩ : Cmt)]) ∧ SliceIs w'' (.slice xa R.data.length xc) R.data ∧ w'.grownBy w'' none) := fun w' x hg hx => rec_call HR.out w' x _ R _ hx (by show F.length ≤ _; omega) (by show (0 : Int) ≤ ((flatT fourF (cs.take j)).length : Int) ∧ ((flatT fourF (cs.take j)).length : Int) ≤ 200000; omega) (HT.out.grownNone hg) r1 r2 hRR.symm
    have hml : (cs.take j ++ [(⟨(j : Int) + 1, [Q]⟩ : Cmt)]).length = j + 1 := by rw [List.length_append, hjl]; rfl
    rw [hjl] at R1
    have BG : Hid (∀ w' x y, CommitsIs w' x (cs.take j) → CommitsIs w' y (cs.take j ++ [(⟨(j : Int) + 1, [Q]⟩ : Cmt)]) → Calls Tryd.prog 15 #[x, y] w' fun e w'' => e = .returned (.bool true) ∧ w'.grownBy w'' none) := fun w' x y h1 h2 => begins_same w' x y _ _ h1 h2 (by rw [hml, hjl]; omega) (by omega) (fun i hi => by rw [hjl] at hi; simp [List.getD_eq_getElem?_getD, List.getElem?_append, hjl, hi]) (fun i hi => HW2s.out i (by omega))
    have HLast : Hid ((cs.take j ++ [(⟨(j : Int) + 1, [Q]⟩ : Cmt)]).getD j noCmt = ⟨(j : Int) + 1, [Q]⟩) := by
      show _ = _
      simp [List.getD_eq_getElem?_getD, hjl]
    have HML : Hid ((cs.take j ++ [(⟨(j : Int) + 1, [Q]⟩ : Cmt)]).length = j + 1) := hml
    have SC : Hid (∀ w' x y, CommitIs w' x ⟨(j : Int) + 1, [Q]⟩ → CommitIs w' y ⟨(j : Int) + 1, [Q]⟩ → Calls Tryd.prog 18 #[x, y] w' fun e w'' => e = .returned (.bool true) ∧ w'.grownBy w'' none) := fun w' x y h1 h2 => ksameCommit_same w' x y _ h1 h2 (by simp)
    have hj12 : j ≤ 12 := by omega
    generalize flatT fourF (cs.take j) = U at *
    generalize cs.take j ++ [(⟨(j : Int) + 1, [Q]⟩ : Cmt)] = more at *
    generalize cs.take j = gs at *
    have HTB : Hid (wc.heap[w2.heap.size]? = some (.cells #[.slice xa n xc, .int .i64 (n : Int)] 28)) := htb
    have HTX : Hid (TapeIs wc (.agg #[.slice xa n xc, .int .i64 (n : Int)]) ⟨D.take n, (n : Int)⟩) := ⟨_, rfl, hsx⟩
    clear c0 c1 q1 q2 q3 q4 q5 q6 hit2 htd HW2s hce e1 e2 hfr r1 r2 hF hRR hml hjl hwE HA HR HIT HD HWS CR HCN PK htb hsx hul
    obtain ⟨c0, c1, _, _⟩ := two_room HTB.out
    go_wp2_with fail
    refine (R1.out _ _ hg0x HTX.out).mono ?_
    rintro e w4 ⟨ga, gc, ua, uc, rfl, h4, h4s, hg4⟩
    obtain ⟨W4, HW4, hgA4, B4⟩ := alloc_named7 w4 (.cells #[.slice ua U.length uc, .int .i64 (U.length : Int)] 28)
    have hgx4 := grown_trans hg4 hgA4
    have hg04 := grown_trans hg0x hgx4
    have HC4 : Hid (CommitsIs W4 (.slice ga j gc) gs) := h4.grown hgA4
    have HT4 : Hid (TapeIs W4 (.agg #[.slice ua U.length uc, .int .i64 (U.length : Int)]) ⟨U, (U.length : Int)⟩) := ⟨_, rfl, h4s.grown hgA4⟩
    clear h4 h4s c0 c1
    go_upto_region 5 with fail
    rw [← HW4.out]
    obtain ⟨⟨a0, a1, a2, a3⟩, _⟩ := quad_room hg04 B0.out
    go_wp2_with fail
    refine (WR.out _ hg04).mono ?_
    rintro e w5 ⟨qa, qc, ra, rc, sa, sc, rfl, s1, s2, s3, hg5⟩
    obtain ⟨V5, HV5, hgV5, BV5⟩ := alloc_named7 w5 (.cells #[.slice qa Q.name.length qc, .slice ra Q.key.length rc, .bool Q.gone, .slice sa Q.value.length sc] 48)
    obtain ⟨W5, HW5, hgA5, B5⟩ := alloc_named7 V5 (.cells #[.int .i64 ((j : Int) + 1), .slice (some ⟨w5.heap.size, 0, none⟩) 1 1] 37)
    have HWS5 : Hid (WritesIs V5 (.slice (some ⟨w5.heap.size, 0, none⟩) 1 1) [Q]) := by rw [HV5.out]; exact writes_one w5 _ _ _ Q s1 s2 s3 _
    have HC5 : Hid (CommitIs W5 (.agg #[.int .i64 ((j : Int) + 1), .slice (some ⟨w5.heap.size, 0, none⟩) 1 1]) ⟨(j : Int) + 1, [Q]⟩) := ⟨_, rfl, HWS5.out.grown hgA5⟩
    have HWW : Hid (W5 = (w5.alloc (.cells #[.slice qa Q.name.length qc, .slice ra Q.key.length rc, .bool Q.gone, .slice sa Q.value.length sc] 48)).alloc (.cells #[.int .i64 ((j : Int) + 1), .slice (some ⟨w5.heap.size, 0, none⟩) 1 1] 37)) := by show _ = _; rw [HW5.out, HV5.out]
    have hsz5 : V5.heap.size = w5.heap.size + 1 := by rw [HV5.out]; simp
    rw [hsz5] at B5
    have hg45 := grown_trans hg5 (grown_trans hgV5 hgA5)
    have hg05 := grown_trans hg04 hg45
    clear s1 s2 s3 a0 a1 a2 a3 hsz5 WR
    go_upto_region 6 with fail
    rw [← HWW.out]
    obtain ⟨c0, c1, _, _⟩ := pair_room hg45 B4.out
    obtain ⟨d0, d1, _, _⟩ := pair_room (grown_refl W5 none) B5.out
    go_wp2_with fail
    refine (AP.out _ _ _ hg05 (HT4.out.grown hg45) HC5.out).mono ?_
    rintro e w6 ⟨fa, fc, rfl, h6, hg6⟩
    obtain ⟨W6, HW6, hgA6, B6⟩ := alloc_named7 w6 (.cells #[.slice fa F.length fc, .int .i64 (U.length : Int)] 28)
    have HT6 : Hid (TapeIs W6 (.agg #[.slice fa F.length fc, .int .i64 (U.length : Int)]) ⟨F, (U.length : Int)⟩) := ⟨_, rfl, h6.grown hgA6⟩
    have hg56 := grown_trans hg6 hgA6
    have hg06 := grown_trans hg05 hg56
    clear h6 c0 c1 d0 d1 AP
    go_upto_region 7 with fail
    rw [← HW6.out]
    obtain ⟨c0, c1, _, _⟩ := pair_room (grown_refl W6 none) B6.out
    go_wp2_with fail
    refine (R2.out _ _ hg06 HT6.out).mono ?_
    rintro e w7 ⟨ma, mc, ya, yc, rfl, h7, h7s, hg7⟩
    obtain ⟨W7, HW7, hgA7, B7⟩ := alloc_named7 w7 (.cells #[.slice ya R.data.length yc, .int .i64 R.synced] 28)
    have hg67 := grown_trans hg7 hgA7
    have hg57 := grown_trans hg56 hg67
    have hg47 := grown_trans hg45 hg57
    have hg07 := grown_trans hg06 hg67
    have HM7 : Hid (CommitsIs W7 (.slice ma more.length mc) more) := h7.grown hgA7
    clear h7 h7s c0 c1 R1 R2
    go_upto_region 8 with fail
    rw [← HW7.out]
    obtain ⟨mb, mo, rfl, hat⟩ := HM7.out.at j (by rw [HML.out]; omega)
    rw [HLast.out] at hat
    obtain ⟨ws, y1, y2, sw⟩ := hat
    obtain ⟨wa, wcp, rfl⟩ := sw.shape
    have HSW : Hid (CommitIs W7 (.agg #[.int .i64 ((j : Int) + 1), .slice wa 1 wcp]) ⟨(j : Int) + 1, [Q]⟩) := ⟨_, rfl, sw⟩
    have y2' : W7.cell? ⟨mb, mo + j * 2 + 1, none⟩ = some (.slice wa 1 wcp) := y2
    have y1' : W7.cell? ⟨mb, mo + j * 2, none⟩ = some (.int .i64 ((j : Int) + 1)) := y1
    obtain ⟨d0, d1, _, _⟩ := pair_room hg57 B5.out
    have hgd := grown_drew (grown_refl W7 none)
    have k0 := hgd.cell y1' (by simp)
    have k1 := hgd.cell y2' (by simp)
    have k2 := hgd.cell d0 (by simp)
    have k3 := hgd.cell d1 (by simp)
    have hqb : ((more.length : Int) == (j : Int) + 1) = true := by rw [HML.out]; simp
    have hjm : j < more.length := by rw [HML.out]; omega
    have hw1 : IntKind.i64.wrap ((j : Int) + 1) = (j : Int) + 1 := by rw [IntKind.wrap_i64]; omega
    have hjm2 : (j : Int) < (more.length : Int) := by omega
    clear y1 y2 sw
    go_region_held3 (fun w' => w'.cell? ⟨mb, mo + j * 2, none⟩ = some (.int .i64 ((j : Int) + 1)) ∧ w'.cell? ⟨mb, mo + j * 2 + 1, none⟩ = some (.slice wa 1 wcp) ∧ w'.cell? ⟨w5.heap.size + 1, 0, none⟩ = some (.int .i64 ((j : Int) + 1)) ∧ w'.cell? ⟨w5.heap.size + 1, 1, none⟩ = some (.slice (some ⟨w5.heap.size, 0, none⟩) 1 1))
      (first | with_reducible exact ⟨k0, k1, k2, k3⟩ | with_reducible exact ⟨m0, m1, m2, m3⟩ | with_reducible exact ⟨n0, n1, n2, n3⟩)
      (first
        | (go_at_call 15
           with_reducible refine (BG.out _ _ _ ((HC4.out.grown hg47).grown hgd) (HM7.out.grown hgd)).mono ?_
           rintro e w8 ⟨rfl, hg8⟩
           have hgk := grown_trans hgd hg8
           have m0 := hgk.cell y1' (by simp)
           have m1 := hgk.cell y2' (by simp)
           have m2 := hgk.cell d0 (by simp)
           have m3 := hgk.cell d1 (by simp))
        | (go_at_call 18
           with_reducible refine (SC.out _ _ _ (HSW.out.grown hgk) ((HC5.out.grown hg57).grown hgk)).mono ?_
           rintro e w9 ⟨rfl, hg9⟩
           have hgl := grown_trans hgk hg9
           have n0 := hgl.cell y1' (by simp)
           have n1 := hgl.cell y2' (by simp)
           have n2 := hgl.cell d0 (by simp)
           have n3 := hgl.cell d1 (by simp)))
    all_goals (
      go_wp2
      go_ret
      exact ⟨rfl, grown_trans hg0 (grown_trans hg07 hgl)⟩)
end Go.Proofs.YtkheombfjgjedacDoor
