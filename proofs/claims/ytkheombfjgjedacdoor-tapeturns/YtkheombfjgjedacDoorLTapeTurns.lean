/-
  The walk of canopykeep.TapeTurns, over what the code must keep.
-/
import Derived.Test.YtkheombfjgjedacDoorLTKr
import Derived.Test.YtkheombfjgjedacDoorLTKw
import Derived.Test.YtkheombfjgjedacDoorPicked
namespace Go.Proofs.YtkheombfjgjedacDoor
open Go.RowKit
set_option maxRecDepth 100000 in
set_option maxHeartbeats 2000000 in
theorem tapeTurns_walk (hF : FApplyNewOK) (hA : TpAppOK) (hR : TpRecOK) (w : World) (v u : Value) (l : List Plc) (p : Plc) (turn : Int) (hv : PlacesIs w v l) (hu : PlaceIs w u p) (hl : FitsQ l) (hp : PlcFits p) (hn0 : -9223372036854775808 ≤ turn) (hn1 : turn ≤ 9223372036854775807) (ht : Tabs w) :
    Calls Tryd.prog 6 #[v, u, .int .i64 turn] w fun e w' => e = .returned (.bool true) ∧ w.grownBy w' none := by
  obtain ⟨a, cap, rfl⟩ := hv.shape
  obtain ⟨na, nc, ka, kc, va, vc, rfl⟩ := hu.cellsT
  obtain ⟨W0, HW0, hg0, B0⟩ := alloc_named7 w (.cells #[.slice na p.name.length nc, .slice ka p.key.length kc, .slice va p.value.length vc, .bool p.gone] 46)
  have KC : Hid (Calls Tryd.prog 8 #[.slice a l.length cap, .int .i64 12] W0 fun e w' => ∃ v', e = .returned v' ∧ ∃ cs, CommitsIs w' v' cs ∧ (∃ f, CmtsOf ((l.take 12).map writeF) ((l.take 12).map writeF).length cs f) ∧ W0.grownBy w' none) := kcommits_any hF W0 _ l 12 (hv.grown hg0) hl (by omega)
  have WR : Hid (∀ w', W0.grownBy w' none → Calls Tryd.prog 17 #[.agg #[.slice na p.name.length nc, .slice ka p.key.length kc, .slice va p.value.length vc, .bool p.gone]] w' fun e w'' => ∃ na nc ka kc va vc, e = .returned (.agg #[.slice na (writeF p).name.length nc, .slice ka (writeF p).key.length kc, .bool (writeF p).gone, .slice va (writeF p).value.length vc]) ∧ SliceIs w'' (.slice na (writeF p).name.length nc) (writeF p).name ∧ SliceIs w'' (.slice ka (writeF p).key.length kc) (writeF p).key ∧ SliceIs w'' (.slice va (writeF p).value.length vc) (writeF p).value ∧ w'.grownBy w'' none) := fun w' hg => write_ofT w' _ p ((hu.grown hg0).grown hg) hp
  have PK : Hid (∀ w', Calls Tryd.prog 9 #[.int .i64 turn, .int .i64 40] w' fun e w'' => ∃ k : Nat, e = .returned (.int .i64 (k : Int)) ∧ (k : Int) < 40 ∧ w'' = w') := fun w' => picked_any turn 40 w' hn0 hn1 (by omega) (by omega)
  have hwE := writeF_ok p
  have HA : Hid TpAppOK := hA
  have HR : Hid TpRecOK := hR
  have HT : Hid (Tabs W0) := ht.grownNone hg0
  generalize writeF p = Q at *
  generalize p.name.length = pn at *
  generalize p.key.length = pk at *
  generalize p.value.length = pv at *
  generalize p.gone = pg at *
  clear hv hl hF hA hR ht hu hp
  go_enter Tryd.func6, Tryd.ntmps6
  go_upto_region 1 with fail
  rw [← HW0.out]
  go_wp2_with fail
  refine KC.out.mono ?_
  rintro e w1 ⟨v1, rfl, cs, h1, hco, hg1⟩
  obtain ⟨hi, hcl, hne, hfl, hws⟩ := cmts_facts (by omega) hco
  obtain ⟨ca, cc, rfl⟩ := h1.shape
  have TD : Hid (Calls Tryd.prog 10 #[.slice ca cs.length cc] w1 fun e w' => ∃ xa xc, e = .returned (.tuple #[.agg #[.slice xa (flatT fourF cs).length xc, .int .i64 0], .bool true]) ∧ SliceIs w' (.slice xa (flatT fourF cs).length xc) (flatT fourF cs) ∧ w1.grownBy w' none) := taped_call HA.out w1 _ cs h1 hi (by omega) (HT.out.grownNone hg1)
  have hdl : (flatT fourF cs).length ≤ 10000 := by omega
  have APB : Hid (∀ w' x, W0.grownBy w' none → TapeIs w' x ⟨flatT fourF cs, 0⟩ → Calls Tryd.prog 12 #[x, .agg #[.int .i64 0, .slice none 0 0]] w' fun e w'' => ∃ xa xc, e = .returned (.tuple #[.agg #[.slice xa 0 xc, .int .i64 0], .int .i64 2]) ∧ SliceIs w'' (.slice xa 0 xc) [] ∧ w'.grownBy w'' none) := fun w' x hg hx => by
    have hm : mayT ⟨flatT fourF cs, 0⟩ = true := (mayT_iff _).2 ⟨by show (flatT fourF cs).length ≤ _; omega, by show (0 : Int) ≤ 0 ∧ (0 : Int) ≤ ((flatT fourF cs).length : Int); omega⟩
    have e0 : commitE noCmt = 2 := by decide
    have e1 : appE fourF ⟨flatT fourF cs, 0⟩ noCmt = 2 := by rw [appE, if_pos hm, if_neg (by rw [e0]; decide), e0]
    have e2 : appT fourF ⟨flatT fourF cs, 0⟩ noCmt = noTap := by rw [appT, e1]; rfl
    exact app_call HA.out w' x _ _ noTap noCmt 2 hx (commitIs_no w') (by show (flatT fourF cs).length ≤ _; omega) (by show (0 : Int) ≤ 0 ∧ (0 : Int) ≤ 200000; omega) ⟨by show -9223372036854775808 ≤ (0 : Int) ∧ (0 : Int) ≤ 9223372036854775807; omega, ⟨by simp [noCmt], fun i hi => by simp [noCmt] at hi⟩⟩ (HT.out.grownNone hg) e1 e2
  have HIT : Hid (InTurn 1 cs) := hi
  obtain ⟨D, hD⟩ : ∃ D, D = flatT fourF cs := ⟨_, rfl⟩
  have HD : Hid (D = flatT fourF cs) := hD
  rw [← hD] at TD APB hdl
  clear h1 hco hws hi hne hD hfl
  go_wp2_with fail
  refine TD.out.mono ?_
  rintro e w2 ⟨ta, tc, rfl, h2, hg2⟩
  obtain ⟨W2, HW2, hgA2, B2⟩ := alloc_named7 w2 (.cells #[.slice ta D.length tc, .int .i64 0] 28)
  have HT2 : Hid (TapeIs W2 (.agg #[.slice ta D.length tc, .int .i64 0]) ⟨D, 0⟩) := ⟨_, rfl, h2.grown hgA2⟩
  have hg02 := grown_trans hg1 (grown_trans hg2 hgA2)
  clear h2
  go_upto_region 3 with fail
  rw [← HW2.out]
  go_wp2_with fail
  refine (PK.out _).mono ?_
  rintro e w3 ⟨k, rfl, hk, rfl⟩
  obtain ⟨⟨a0, a1, a2, a3⟩, _⟩ := quad_room hg02 B0.out
  go_wp2_with fail
  refine (WR.out _ hg02).mono ?_
  rintro e w4 ⟨qa, qc, ra, rc, sa, sc, rfl, s1, s2, s3, hg4⟩
  obtain ⟨V4, HV4, hgV4, BV4⟩ := alloc_named7 w4 (.cells #[.slice qa Q.name.length qc, .slice ra Q.key.length rc, .bool Q.gone, .slice sa Q.value.length sc] 48)
  obtain ⟨W4, HW4, hgA4, B4⟩ := alloc_named7 V4 (.cells #[.int .i64 (1 + (k : Int)), .slice (some ⟨w4.heap.size, 0, none⟩) 1 1] 37)
  have HWS : Hid (WritesIs V4 (.slice (some ⟨w4.heap.size, 0, none⟩) 1 1) [Q]) := by rw [HV4.out]; exact writes_one w4 _ _ _ Q s1 s2 s3 _
  have HC4 : Hid (CommitIs W4 (.agg #[.int .i64 (1 + (k : Int)), .slice (some ⟨w4.heap.size, 0, none⟩) 1 1]) ⟨1 + (k : Int), [Q]⟩) := ⟨_, rfl, HWS.out.grown hgA4⟩
  have HWW : Hid (W4 = (w4.alloc (.cells #[.slice qa Q.name.length qc, .slice ra Q.key.length rc, .bool Q.gone, .slice sa Q.value.length sc] 48)).alloc (.cells #[.int .i64 (1 + (k : Int)), .slice (some ⟨w4.heap.size, 0, none⟩) 1 1] 37)) := by show _ = _; rw [HW4.out, HV4.out]
  have hsz4 : V4.heap.size = w4.heap.size + 1 := by rw [HV4.out]; simp
  rw [hsz4] at B4
  have hg24 := grown_trans hg4 (grown_trans hgV4 hgA4)
  have hg04 := grown_trans hg02 hg24
  have hce : commitE ⟨1 + (k : Int), [Q]⟩ = 0 := (commit_iff _).2 ⟨by show 1 ≤ 1 + (k : Int) ∧ 1 + (k : Int) ≤ 1048576; omega, by simp, fun x hx => by
    simp only [List.mem_cons, List.not_mem_nil, or_false] at hx
    subst hx; exact hwE⟩
  obtain ⟨e1, e2⟩ := app_next (D := fourF) fourF_len (t := ⟨D, 0⟩) hce (by show (0 : Int) ≤ 0 ∧ (0 : Int) ≤ (D.length : Int); omega) (by show D.length ≤ 190000; omega)
  have hfr := frame_grows fourF_len hce
  have AP : Hid (∀ w' x y, W0.grownBy w' none → TapeIs w' x ⟨D, 0⟩ → CommitIs w' y ⟨1 + (k : Int), [Q]⟩ → Calls Tryd.prog 12 #[x, y] w' fun e w'' => ∃ xa xc, e = .returned (.tuple #[.agg #[.slice xa (D ++ frameB fourF ⟨1 + (k : Int), [Q]⟩).length xc, .int .i64 0], .int .i64 0]) ∧ SliceIs w'' (.slice xa (D ++ frameB fourF ⟨1 + (k : Int), [Q]⟩).length xc) (D ++ frameB fourF ⟨1 + (k : Int), [Q]⟩) ∧ w'.grownBy w'' none) := fun w' x y hg hx hy => app_call HA.out w' x y ⟨D, 0⟩ _ _ 0 hx hy (by show D.length ≤ _; omega) (by show (0 : Int) ≤ 0 ∧ (0 : Int) ≤ 200000; omega) (commit_fits hce) (HT.out.grownNone hg) e1 e2
  obtain ⟨r1, r2⟩ := rec_more (D := fourF) fourF_len HIT.out hce 0 (by rw [← HD.out]; omega) (by rw [← HD.out]; omega)
  rw [← HD.out] at r1 r2
  obtain ⟨F, hF⟩ : ∃ F, F = D ++ frameB fourF ⟨1 + (k : Int), [Q]⟩ := ⟨_, rfl⟩
  have hFl : F.length ≤ 20000 := by rw [hF, List.length_append]; omega
  rw [← hF] at AP r1 r2
  obtain ⟨gs, hgs⟩ : ∃ gs : List Cmt, gs = (if (⟨1 + (k : Int), [Q]⟩ : Cmt).turn = ((cs.length + 1 : Nat) : Int) then cs ++ [⟨1 + (k : Int), [Q]⟩] else cs) := ⟨_, rfl⟩
  rw [← hgs] at r2
  have hgl : (gs.length : Int) = if 1 + (k : Int) = (cs.length : Int) + 1 then (cs.length : Int) + 1 else (cs.length : Int) := by
    rw [hgs]
    by_cases hq : 1 + (k : Int) = (cs.length : Int) + 1
    · rw [if_pos (by show 1 + (k : Int) = ((cs.length + 1 : Nat) : Int); omega), if_pos hq]; simp
    · rw [if_neg (by show ¬ 1 + (k : Int) = ((cs.length + 1 : Nat) : Int); omega), if_neg hq]
  obtain ⟨R, hR⟩ : ∃ R, R = recT fourF ⟨F, 0⟩ := ⟨_, rfl⟩
  have RC : Hid (∀ w' x, W0.grownBy w' none → TapeIs w' x ⟨F, 0⟩ → Calls Tryd.prog 14 #[x] w' fun e w'' => ∃ va vc xa xc, e = .returned (.tuple #[.slice va gs.length vc, .agg #[.slice xa R.data.length xc, .int .i64 R.synced], .int .i64 0]) ∧ CommitsIs w'' (.slice va gs.length vc) gs ∧ SliceIs w'' (.slice xa R.data.length xc) R.data ∧ w'.grownBy w'' none) := fun w' x hg hx => rec_call HR.out w' x _ R gs hx (by show F.length ≤ _; omega) (by show (0 : Int) ≤ 0 ∧ (0 : Int) ≤ 200000; omega) (HT.out.grownNone hg) r1 r2 hR.symm
  have HGL : Hid ((gs.length : Int) = if 1 + (k : Int) = (cs.length : Int) + 1 then (cs.length : Int) + 1 else (cs.length : Int)) := hgl
  generalize frameB fourF ⟨1 + (k : Int), [Q]⟩ = FB at *
  clear s1 s2 s3 a0 a1 a2 a3 hce e1 e2 hfr r1 r2 hF hgs hgl hR hsz4 hwE HA HR HIT HD WR
  go_upto_region 5 with fail
  rw [← HWW.out]
  obtain ⟨c0, c1, _, _⟩ := pair_room hg24 B2.out
  obtain ⟨d0, d1, _, _⟩ := pair_room (grown_refl W4 none) B4.out
  go_wp2_with fail
  refine (AP.out _ _ _ hg04 (HT2.out.grown hg24) HC4.out).mono ?_
  rintro e w5 ⟨xa, xc, rfl, h5, hg5⟩
  obtain ⟨W5, HW5, hgA5, B5⟩ := alloc_named7 w5 (.cells #[.slice xa F.length xc, .int .i64 0] 28)
  have HT5 : Hid (TapeIs W5 (.agg #[.slice xa F.length xc, .int .i64 0]) ⟨F, 0⟩) := ⟨_, rfl, h5.grown hgA5⟩
  have hg45 := grown_trans hg5 hgA5
  have hg05 := grown_trans hg04 hg45
  clear h5 c0 c1 d0 d1 AP
  go_upto_region 6 with fail
  rw [← HW5.out]
  obtain ⟨c0, c1, _, _⟩ := pair_room (grown_refl W5 none) B5.out
  go_wp2_with fail
  refine (RC.out _ _ hg05 HT5.out).mono ?_
  rintro e w6 ⟨ga, gc, ya, yc, rfl, h6, h6s, hg6⟩
  obtain ⟨W6, HW6, hgA6, B6⟩ := alloc_named7 w6 (.cells #[.slice ya R.data.length yc, .int .i64 R.synced] 28)
  have hg56 := grown_trans hg6 hgA6
  have hg06 := grown_trans hg05 hg56
  have hg26 := grown_trans hg24 (grown_trans hg45 hg56)
  clear h6 h6s c0 c1 RC
  go_upto_region 7 with fail
  rw [← HW6.out]
  obtain ⟨c0, c1, _, _⟩ := pair_room hg26 B2.out
  by_cases hq : 1 + (k : Int) = (cs.length : Int) + 1
  · have hqb : ((gs.length : Int) == (cs.length : Int) + 1) = true := by rw [HGL.out, if_pos hq]; simp
    go_wp2_with fail
    refine (APB.out _ _ hg06 (HT2.out.grown hg26)).mono ?_
    rintro e w7 ⟨za, zc, rfl, h7, hg7⟩
    obtain ⟨W7, HW7, hgA7, _⟩ := alloc_named7 w7 (.cells #[.slice za 0 zc, .int .i64 0] 28)
    go_upto_region 11 with fail
    rw [← HW7.out]
    go_wp2
    go_ret
    exact ⟨rfl, grown_trans hg0 (grown_trans hg06 (grown_trans hg7 hgA7))⟩
  · have hqb : ((gs.length : Int) == (cs.length : Int)) = true := by rw [HGL.out, if_neg hq]; simp
    go_wp2_with fail
    refine (APB.out _ _ hg06 (HT2.out.grown hg26)).mono ?_
    rintro e w7 ⟨za, zc, rfl, h7, hg7⟩
    obtain ⟨W7, HW7, hgA7, _⟩ := alloc_named7 w7 (.cells #[.slice za 0 zc, .int .i64 0] 28)
    go_upto_region 11 with fail
    rw [← HW7.out]
    go_wp2
    go_ret
    exact ⟨rfl, grown_trans hg0 (grown_trans hg06 (grown_trans hg7 hgA7))⟩
end Go.Proofs.YtkheombfjgjedacDoor
