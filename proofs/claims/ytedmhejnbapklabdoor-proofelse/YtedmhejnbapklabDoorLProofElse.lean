/-
  The walk of canopykeep.ProofElse, over what the code must keep.
-/
import Derived.Test.YtedmhejnbapklabDoorLPK
namespace Go.Proofs.YtedmhejnbapklabDoor
open Go.RowKit
set_option maxRecDepth 100000 in
set_option maxHeartbeats 2000000 in
theorem proofElse_walk (hM : KMakeOK) (hR : TRootOK) (hP : PProveOK) (hV : PVerifyOK) (hG : TGetOK) (hC : PCheckOK) (w : World) (v u m : Value) (l : PL) (kb mb : List UInt8) (hv : PairsIs w v l) (hu : SliceIs w u kb) (hm : SliceIs w m mb) (hl : Fits l) (hkl : kb.length ≤ maxLen) (hml : mb.length ≤ maxLen) (ht : Tabs w) :
    Calls Tryd.prog 3 #[v, u, m] w fun e w' => e = .returned (.bool true) ∧ w.grownBy w' none := by
  have hT := mkT_tree l 20 (by omega)
  have hK := keyF_len kb
  have hJ := keyF_len mb
  have HM : Hid (Calls Tryd.prog 6 #[v, .int .i64 20] w fun e w' => ∃ v', e = .returned v' ∧ OwnP w.heap.size w' v' (mkT (l.take 20)) ∧ w.grownBy w' none) := hM w v l 20 hv hl (by omega)
  have HK : Hid (∀ w', w.grownBy w' none → Calls Tryd.prog 7 #[u] w' fun e w'' => ∃ v', e = .returned v' ∧ SliceIs w'' v' (keyF kb) ∧ w'.grownBy w'' none) := fun w' hg => key_any w' u kb (hu.grown hg) hkl
  have HJ : Hid (∀ w', w.grownBy w' none → Calls Tryd.prog 7 #[m] w' fun e w'' => ∃ v', e = .returned v' ∧ SliceIs w'' v' (keyF mb) ∧ w'.grownBy w'' none) := fun w' hg => key_any w' m mb (hm.grown hg) hml
  generalize mkT (l.take 20) = PS at *
  generalize keyF kb = K at *
  generalize keyF mb = J at *
  have hfit := prove_fits hT K
  have helse := prove_else hT K J hJ
  have HR : Hid (∀ w' v', w.grownBy w' none → PairsIs w' v' PS → Calls Tryd.prog 8 #[v'] w' fun e w'' => ∃ xa xc, e = .returned (.tuple #[.slice xa 32 xc, .int .i64 0]) ∧ SliceIs w'' (.slice xa 32 xc) (rootL PS) ∧ w'.grownBy w'' none) := fun w' v' hg h => TRootOK.tree hR w' v' PS h hT (ht.grownNone hg)
  have HP : Hid (∀ w' v' u', w.grownBy w' none → PairsIs w' v' PS → SliceIs w' u' K → Calls Tryd.prog 9 #[v', u'] w' fun e w'' => ∃ sa sc ka kc va vc, e = .returned (.tuple #[.agg #[.bool (proveL PS K).empty, .slice sa (proveL PS K).steps.length sc, .slice ka (proveL PS K).pair.1.length kc, .slice va (proveL PS K).pair.2.length vc], .int .i64 0]) ∧ ProofNew w'.heap.size w'' (.agg #[.bool (proveL PS K).empty, .slice sa (proveL PS K).steps.length sc, .slice ka (proveL PS K).pair.1.length kc, .slice va (proveL PS K).pair.2.length vc]) (proveL PS K) ∧ w'.grownBy w'' none) := fun w' v' u' hg h1 h2 => PProveOK.of hP w' v' u' PS K h1 h2 hT hK (ht.grownNone hg)
  have HG : Hid (∀ w' v' u', PairsIs w' v' PS → SliceIs w' u' J → Calls Tryd.prog 11 #[v', u'] w' fun e w'' => ∃ xa xc, e = .returned (.tuple #[.agg #[.bool (getF PS J).isSome, .slice xa ((getF PS J).getD []).length xc], .int .i64 0]) ∧ SliceIs w'' (.slice xa ((getF PS J).getD []).length xc) ((getF PS J).getD []) ∧ w'.grownBy w'' none) := fun w' v' u' h1 h2 => TGetOK.of hG w' v' u' PS J h1 h2 hT hJ
  have HV0 : ∀ (E : Int) (B : Bool) (V : List UInt8), verE (rootL PS) J (proveL PS K) = E → verB (rootL PS) J (proveL PS K) = B → verV (rootL PS) J (proveL PS K) = V → Hid (∀ w' r' u' x', w.grownBy w' none → SliceIs w' r' (rootL PS) → SliceIs w' u' J → ProofIs w' x' (proveL PS K) → Calls Tryd.prog 10 #[r', u', x'] w' fun e w'' => ∃ xa xc, e = .returned (.tuple #[.agg #[.bool B, .slice xa V.length xc], .int .i64 E]) ∧ SliceIs w'' (.slice xa V.length xc) V ∧ w'.grownBy w'' none) := fun E B V e1 e2 e3 w' r' u' x' hg h1 h2 h3 => PVerifyOK.of hV w' r' u' x' _ J _ E B V h1 h2 h3 hfit (ht.grownNone hg) e1 e2 e3
  rcases helse with ⟨e0, e1⟩ | ⟨e1, e2, e3⟩
  · have HV := HV0 4 _ _ e1 rfl rfl
    have HC : Hid (∀ w' u' x', SliceIs w' u' J → ProofIs w' x' (proveL PS K) → Calls Tryd.prog 12 #[u', x'] w' fun e w'' => e = .returned (.int .i64 4) ∧ w'.grownBy w'' none) := fun w' u' x' h1 h2 => by
      have := hC w' u' x' J _ h1 h2 hfit
      rw [e0] at this
      exact this
    clear HV0
    generalize verB (rootL PS) J (proveL PS K) = VB at *
    generalize verV (rootL PS) J (proveL PS K) = VV at *
    generalize proveL PS K = PF at *
    generalize rootL PS = R at *
    generalize (getF PS J).getD [] = GV at *
    generalize (getF PS J).isSome = GB at *
    generalize PF.empty = EB at *
    generalize PF.steps.length = n1 at *
    generalize PF.pair.1.length = n2 at *
    generalize PF.pair.2.length = n3 at *
    clear hM hR hP hV hG hC hv hu hm hl hkl hml ht hT hK hJ e0 e1 hfit
    go_enter Tryd.func3, Tryd.ntmps3
    go_wp2_with fail
    refine HM.out.mono ?_
    rintro e w1 ⟨v1, rfl, ho1, hg1⟩
    obtain ⟨pa, pc, rfl⟩ := ho1.shape
    have HL : Hid (PairsIs w1 (.slice pa PS.length pc) PS) := ho1.list
    clear ho1
    go_wp2_with fail
    refine (HK.out _ hg1).mono ?_
    rintro e w1a ⟨v2, rfl, hk2, hg1a⟩
    obtain ⟨ka, kc, rfl⟩ := hk2.shape
    have hg01a := grown_trans hg1 hg1a
    go_wp2_with fail
    refine (HJ.out _ hg01a).mono ?_
    rintro e w2 ⟨v3, rfl, hj2, hg1b⟩
    obtain ⟨ja, jc, rfl⟩ := hj2.shape
    have hg2 := grown_trans hg1a hg1b
    have hg02 := grown_trans hg1 hg2
    have HKY : Hid (SliceIs w2 (.slice ka K.length kc) K) := hk2.grown hg1b
    have HJY : Hid (SliceIs w2 (.slice ja J.length jc) J) := hj2
    clear hk2 hj2
    go_wp2_with fail
    refine (HR.out _ _ hg02 (HL.out.grown hg2)).mono ?_
    rintro e w3 ⟨ra, rc, rfl, hr3, hg3⟩
    have hg03 := grown_trans hg02 hg3
    have HRT : Hid (SliceIs w3 (.slice ra 32 rc) R) := hr3
    clear hr3
    go_wp2_with fail
    refine (HP.out _ _ _ hg03 (HL.out.grown (grown_trans hg2 hg3)) (HKY.out.grown hg3)).mono ?_
    rintro e w4 ⟨sa, sc, qa, qc, va, vc, rfl, hp4, hg4⟩
    have hg04 := grown_trans hg03 hg4
    have hga4 := World.grownBy_alloc w4 (.cells #[.bool EB, .slice sa n1 sc, .slice qa n2 qc, .slice va n3 vc] 34) none
    have HPF : Hid (ProofIs (w4.alloc (.cells #[.bool EB, .slice sa n1 sc, .slice qa n2 qc, .slice va n3 vc] 34)) (.agg #[.bool EB, .slice sa n1 sc, .slice qa n2 qc, .slice va n3 vc]) PF) := hp4.is.grown hga4
    obtain ⟨⟨y0, y1, y2, y3⟩, _⟩ := quad_room (grown_refl _ none) (heap_alloc_new w4 (.cells #[.bool EB, .slice sa n1 sc, .slice qa n2 qc, .slice va n3 vc] 34))
    have hg4a := grown_trans hg4 hga4
    have hg04a := grown_trans hg04 hga4
    clear hp4
    go_wp2_with fail
    refine (HV.out _ _ _ _ hg04a (HRT.out.grown hg4a) (HJY.out.grown (grown_trans hg3 hg4a)) HPF.out).mono ?_
    rintro e w5 ⟨xa, xc, rfl, hx5, hg5⟩
    have hga5 := World.grownBy_alloc w5 (.cells #[.bool VB, .slice xa VV.length xc] 38) none
    have HX : Hid (SliceIs (w5.alloc (.cells #[.bool VB, .slice xa VV.length xc] 38)) (.slice xa VV.length xc) VV) := hx5.grown hga5
    obtain ⟨x0, x1, _, _⟩ := two_cells (heap_alloc_new w5 (.cells #[.bool VB, .slice xa VV.length xc] 38))
    have hg5a := grown_trans hg5 hga5
    have z0 := hg5a.cell y0 (by simp)
    have z1 := hg5a.cell y1 (by simp)
    have z2 := hg5a.cell y2 (by simp)
    have z3 := hg5a.cell y3 (by simp)
    have hg25 := grown_trans hg3 (grown_trans hg4a hg5a)
    clear hx5 y0 y1 y2 y3
    go_wp2_with fail
    refine (HG.out _ _ _ (HL.out.grown (grown_trans hg2 hg25)) (HJY.out.grown hg25)).mono ?_
    rintro e w6 ⟨ya, yc, rfl, hy6, hg6⟩
    have hga6 := World.grownBy_alloc w6 (.cells #[.bool GB, .slice ya GV.length yc] 38) none
    obtain ⟨g0, g1, _, _⟩ := two_cells (heap_alloc_new w6 (.cells #[.bool GB, .slice ya GV.length yc] 38))
    have hg6a := grown_trans hg6 hga6
    have j0 := hg6a.cell z0 (by simp)
    have j1 := hg6a.cell z1 (by simp)
    have j2 := hg6a.cell z2 (by simp)
    have j3 := hg6a.cell z3 (by simp)
    have k0 := hg6a.cell x0 (by simp)
    have k1 := hg6a.cell x1 (by simp)
    have hgF := grown_trans hg04a (grown_trans hg5a hg6a)
    have CK : Hid (Calls Tryd.prog 12 #[.slice ja J.length jc, .agg #[.bool EB, .slice sa n1 sc, .slice qa n2 qc, .slice va n3 vc]] (w6.alloc (.cells #[.bool GB, .slice ya GV.length yc] 38)) fun e w'' => e = .returned (.int .i64 4) ∧ (w6.alloc (.cells #[.bool GB, .slice ya GV.length yc] 38)).grownBy w'' none) := HC.out _ _ _ (HJY.out.grown (grown_trans hg25 hg6a)) (HPF.out.grown (grown_trans hg5a hg6a))
    clear hy6 z0 z1 z2 z3 x0 x1 HX HG HV HP HR HK HM HPF HRT HC HJ
    go_wp2_with fail
    refine CK.out.mono ?_
    rintro e w8 ⟨rfl, hg8⟩
    go_wp2
    go_ret
    exact ⟨rfl, grown_trans hgF hg8⟩
  · have HV := HV0 0 _ _ e1 e2 e3
    clear HV0
    generalize proveL PS K = PF at *
    generalize rootL PS = R at *
    generalize (getF PS J).getD [] = GV at *
    generalize (getF PS J).isSome = GB at *
    generalize PF.empty = EB at *
    generalize PF.steps.length = n1 at *
    generalize PF.pair.1.length = n2 at *
    generalize PF.pair.2.length = n3 at *
    have gbb : Hid ((GB == GB) = true) := by show _ = _; simp
    clear hM hR hP hV hG hC hv hu hm hl hkl hml ht hT hK hJ e1 e2 e3 hfit
    go_enter Tryd.func3, Tryd.ntmps3
    go_wp2_with fail
    refine HM.out.mono ?_
    rintro e w1 ⟨v1, rfl, ho1, hg1⟩
    obtain ⟨pa, pc, rfl⟩ := ho1.shape
    have HL : Hid (PairsIs w1 (.slice pa PS.length pc) PS) := ho1.list
    clear ho1
    go_wp2_with fail
    refine (HK.out _ hg1).mono ?_
    rintro e w1a ⟨v2, rfl, hk2, hg1a⟩
    obtain ⟨ka, kc, rfl⟩ := hk2.shape
    have hg01a := grown_trans hg1 hg1a
    go_wp2_with fail
    refine (HJ.out _ hg01a).mono ?_
    rintro e w2 ⟨v3, rfl, hj2, hg1b⟩
    obtain ⟨ja, jc, rfl⟩ := hj2.shape
    have hg2 := grown_trans hg1a hg1b
    have hg02 := grown_trans hg1 hg2
    have HKY : Hid (SliceIs w2 (.slice ka K.length kc) K) := hk2.grown hg1b
    have HJY : Hid (SliceIs w2 (.slice ja J.length jc) J) := hj2
    clear hk2 hj2
    go_wp2_with fail
    refine (HR.out _ _ hg02 (HL.out.grown hg2)).mono ?_
    rintro e w3 ⟨ra, rc, rfl, hr3, hg3⟩
    have hg03 := grown_trans hg02 hg3
    have HRT : Hid (SliceIs w3 (.slice ra 32 rc) R) := hr3
    clear hr3
    go_wp2_with fail
    refine (HP.out _ _ _ hg03 (HL.out.grown (grown_trans hg2 hg3)) (HKY.out.grown hg3)).mono ?_
    rintro e w4 ⟨sa, sc, qa, qc, va, vc, rfl, hp4, hg4⟩
    have hg04 := grown_trans hg03 hg4
    have hga4 := World.grownBy_alloc w4 (.cells #[.bool EB, .slice sa n1 sc, .slice qa n2 qc, .slice va n3 vc] 34) none
    have HPF : Hid (ProofIs (w4.alloc (.cells #[.bool EB, .slice sa n1 sc, .slice qa n2 qc, .slice va n3 vc] 34)) (.agg #[.bool EB, .slice sa n1 sc, .slice qa n2 qc, .slice va n3 vc]) PF) := hp4.is.grown hga4
    obtain ⟨⟨y0, y1, y2, y3⟩, _⟩ := quad_room (grown_refl _ none) (heap_alloc_new w4 (.cells #[.bool EB, .slice sa n1 sc, .slice qa n2 qc, .slice va n3 vc] 34))
    have hg4a := grown_trans hg4 hga4
    have hg04a := grown_trans hg04 hga4
    clear hp4
    go_wp2_with fail
    refine (HV.out _ _ _ _ hg04a (HRT.out.grown hg4a) (HJY.out.grown (grown_trans hg3 hg4a)) HPF.out).mono ?_
    rintro e w5 ⟨xa, xc, rfl, hx5, hg5⟩
    have hga5 := World.grownBy_alloc w5 (.cells #[.bool GB, .slice xa GV.length xc] 38) none
    have HX : Hid (SliceIs (w5.alloc (.cells #[.bool GB, .slice xa GV.length xc] 38)) (.slice xa GV.length xc) GV) := hx5.grown hga5
    obtain ⟨x0, x1, _, _⟩ := two_cells (heap_alloc_new w5 (.cells #[.bool GB, .slice xa GV.length xc] 38))
    have hg5a := grown_trans hg5 hga5
    have z0 := hg5a.cell y0 (by simp)
    have z1 := hg5a.cell y1 (by simp)
    have z2 := hg5a.cell y2 (by simp)
    have z3 := hg5a.cell y3 (by simp)
    have hg25 := grown_trans hg3 (grown_trans hg4a hg5a)
    clear hx5 y0 y1 y2 y3
    go_wp2_with fail
    refine (HG.out _ _ _ (HL.out.grown (grown_trans hg2 hg25)) (HJY.out.grown hg25)).mono ?_
    rintro e w6 ⟨ya, yc, rfl, hy6, hg6⟩
    have hga6 := World.grownBy_alloc w6 (.cells #[.bool GB, .slice ya GV.length yc] 38) none
    obtain ⟨g0, g1, _, _⟩ := two_cells (heap_alloc_new w6 (.cells #[.bool GB, .slice ya GV.length yc] 38))
    have hg6a := grown_trans hg6 hga6
    have j0 := hg6a.cell z0 (by simp)
    have j1 := hg6a.cell z1 (by simp)
    have j2 := hg6a.cell z2 (by simp)
    have j3 := hg6a.cell z3 (by simp)
    have k0 := hg6a.cell x0 (by simp)
    have k1 := hg6a.cell x1 (by simp)
    have hgF := grown_trans hg04a (grown_trans hg5a hg6a)
    have SM : Hid (Calls Tryd.prog 13 #[.slice xa GV.length xc, .slice ya GV.length yc] (w6.alloc (.cells #[.bool GB, .slice ya GV.length yc] 38)) fun e w' => e = .returned (.bool true) ∧ w' = w6.alloc (.cells #[.bool GB, .slice ya GV.length yc] 38)) := by
      have := same_any _ _ _ GV GV (HX.out.grown hg6a) (hy6.grown hga6)
      rw [decide_eq_true rfl] at this
      exact this
    clear hy6 z0 z1 z2 z3 x0 x1 HX HG HV HP HR HK HM HPF HRT HJ
    have gb1 := gbb.out
    go_wp2_with fail
    refine SM.out.mono ?_
    rintro e w7 ⟨rfl, rfl⟩
    go_wp2
    go_ret
    exact ⟨by first | rfl | simp, hgF⟩
end Go.Proofs.YtedmhejnbapklabDoor
