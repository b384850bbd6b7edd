/-
  The walk of canopykeep.ProveHolds, over what the code must keep.
-/
import Derived.Test.YtedmhejnbapklaaDoorLPK
namespace Go.Proofs.YtedmhejnbapklaaDoor
open Go.RowKit
set_option maxRecDepth 100000 in
set_option maxHeartbeats 2000000 in
theorem proveHolds_walk (hM : KMakeOK) (hR : TRootOK) (hP : PProveOK) (hV : PVerifyOK) (hG : TGetOK) (hC : PCheckOK) (w : World) (v u : Value) (l : PL) (kb : List UInt8) (hv : PairsIs w v l) (hu : SliceIs w u kb) (hl : Fits l) (hkl : kb.length ≤ maxLen) (ht : Tabs w) :
    Calls Tryd.prog 5 #[v, u] w fun e w' => e = .returned (.bool true) ∧ w.grownBy w' none := by
  have hT := mkT_tree l 20 (by omega)
  have hK := keyF_len kb
  have HM : Hid (Calls Tryd.prog 18 #[v, .int .i64 20] w fun e w' => ∃ v', e = .returned v' ∧ OwnP w.heap.size w' v' (mkT (l.take 20)) ∧ w.grownBy w' none) := hM w v l 20 hv hl (by omega)
  have HK : Hid (∀ w', w.grownBy w' none → Calls Tryd.prog 19 #[u] w' fun e w'' => ∃ v', e = .returned v' ∧ SliceIs w'' v' (keyF kb) ∧ w'.grownBy w'' none) := fun w' hg => key_any w' u kb (hu.grown hg) hkl
  generalize mkT (l.take 20) = PS at *
  generalize keyF kb = K at *
  obtain ⟨e0, e1, e2, e3⟩ := prove_holds hT K hK
  have hfit := prove_fits hT K
  have hemp := prove_empty PS K
  have HR : Hid (∀ w' v', w.grownBy w' none → PairsIs w' v' PS → Calls Tryd.prog 20 #[v'] w' fun e w'' => ∃ xa xc, e = .returned (.tuple #[.slice xa 32 xc, .int .i64 0]) ∧ SliceIs w'' (.slice xa 32 xc) (rootL PS) ∧ w'.grownBy w'' none) := fun w' v' hg h => TRootOK.tree hR w' v' PS h hT (ht.grownNone hg)
  have HP : Hid (∀ w' v' u', w.grownBy w' none → PairsIs w' v' PS → SliceIs w' u' K → Calls Tryd.prog 9 #[v', u'] w' fun e w'' => ∃ sa sc ka kc va vc, e = .returned (.tuple #[.agg #[.bool (proveL PS K).empty, .slice sa (proveL PS K).steps.length sc, .slice ka (proveL PS K).pair.1.length kc, .slice va (proveL PS K).pair.2.length vc], .int .i64 0]) ∧ ProofNew w'.heap.size w'' (.agg #[.bool (proveL PS K).empty, .slice sa (proveL PS K).steps.length sc, .slice ka (proveL PS K).pair.1.length kc, .slice va (proveL PS K).pair.2.length vc]) (proveL PS K) ∧ w'.grownBy w'' none) := fun w' v' u' hg h1 h2 => PProveOK.of hP w' v' u' PS K h1 h2 hT hK (ht.grownNone hg)
  have HV : Hid (∀ w' r' u' x', w.grownBy w' none → SliceIs w' r' (rootL PS) → SliceIs w' u' K → ProofIs w' x' (proveL PS K) → Calls Tryd.prog 15 #[r', u', x'] w' fun e w'' => ∃ xa xc, e = .returned (.tuple #[.agg #[.bool (getF PS K).isSome, .slice xa ((getF PS K).getD []).length xc], .int .i64 0]) ∧ SliceIs w'' (.slice xa ((getF PS K).getD []).length xc) ((getF PS K).getD []) ∧ w'.grownBy w'' none) := fun w' r' u' x' hg h1 h2 h3 => PVerifyOK.of hV w' r' u' x' _ K _ 0 _ _ h1 h2 h3 hfit (ht.grownNone hg) e1 e2 e3
  have HG : Hid (∀ w' v' u', PairsIs w' v' PS → SliceIs w' u' K → Calls Tryd.prog 21 #[v', u'] w' fun e w'' => ∃ xa xc, e = .returned (.tuple #[.agg #[.bool (getF PS K).isSome, .slice xa ((getF PS K).getD []).length xc], .int .i64 0]) ∧ SliceIs w'' (.slice xa ((getF PS K).getD []).length xc) ((getF PS K).getD []) ∧ w'.grownBy w'' none) := fun w' v' u' h1 h2 => TGetOK.of hG w' v' u' PS K h1 h2 hT hK
  have HC : Hid (∀ w' u' x', SliceIs w' u' K → ProofIs w' x' (proveL PS K) → Calls Tryd.prog 23 #[u', x'] w' fun e w'' => e = .returned (.int .i64 0) ∧ w'.grownBy w'' none) := fun w' u' x' h1 h2 => by
    have := hC w' u' x' K _ h1 h2 hfit
    rw [e0] at this
    exact this
  rw [hemp] at HP
  generalize proveL PS K = PF at *
  generalize rootL PS = R at *
  generalize (getF PS K).getD [] = GV at *
  generalize (getF PS K).isSome = GB at *
  have hroom := hT.room
  have DEC : Hid ((decide (PS.length = 0) == ((PS.length : Int) == 0)) = true) := by
    show _ = _
    by_cases h : PS.length = 0 <;> simp [h]
  generalize decide (PS.length = 0) = EB at *
  generalize PF.steps.length = n1 at *
  generalize PF.pair.1.length = n2 at *
  generalize PF.pair.2.length = n3 at *
  have gbb : Hid ((GB == GB) = true) := by show _ = _; simp
  clear hM hR hP hV hG hC hv hu hl hkl ht hT hK e0 e1 e2 e3 hfit hemp
  go_enter Tryd.func5, Tryd.ntmps5
  go_wp2_with fail
  refine HM.out.mono ?_
  rintro e w1 ⟨v1, rfl, ho1, hg1⟩
  obtain ⟨pa, pc, rfl⟩ := ho1.shape
  have HL : Hid (PairsIs w1 (.slice pa PS.length pc) PS) := ho1.list
  clear ho1
  go_wp2_with fail
  refine (HK.out _ hg1).mono ?_
  rintro e w2 ⟨v2, rfl, hk2, hg2⟩
  obtain ⟨ka, kc, rfl⟩ := hk2.shape
  have hg02 := grown_trans hg1 hg2
  have HKY : Hid (SliceIs w2 (.slice ka K.length kc) K) := hk2
  clear hk2
  go_wp2_with fail
  refine (HR.out _ _ hg02 (HL.out.grown hg2)).mono ?_
  rintro e w3 ⟨ra, rc, rfl, hr3, hg3⟩
  have hg03 := grown_trans hg02 hg3
  have HRT : Hid (SliceIs w3 (.slice ra 32 rc) R) := hr3
  clear hr3
  go_wp2_with fail
  refine (HP.out _ _ _ hg03 (HL.out.grown (grown_trans hg2 hg3)) (HKY.out.grown hg3)).mono ?_
  rintro e w4 ⟨sa, sc, qa, qc, va, vc, rfl, hp4, hg4⟩
  have hg04 := grown_trans hg03 hg4
  have hga4 := World.grownBy_alloc w4 (.cells #[.bool EB, .slice sa n1 sc, .slice qa n2 qc, .slice va n3 vc] 29) none
  have HPF : Hid (ProofIs (w4.alloc (.cells #[.bool EB, .slice sa n1 sc, .slice qa n2 qc, .slice va n3 vc] 29)) (.agg #[.bool EB, .slice sa n1 sc, .slice qa n2 qc, .slice va n3 vc]) PF) := hp4.is.grown hga4
  obtain ⟨⟨y0, y1, y2, y3⟩, _⟩ := quad_room (grown_refl _ none) (heap_alloc_new w4 (.cells #[.bool EB, .slice sa n1 sc, .slice qa n2 qc, .slice va n3 vc] 29))
  have hg4a := grown_trans hg4 hga4
  have hg04a := grown_trans hg04 hga4
  clear hp4
  go_wp2_with fail
  refine (HV.out _ _ _ _ hg04a (HRT.out.grown hg4a) (HKY.out.grown (grown_trans hg3 hg4a)) HPF.out).mono ?_
  rintro e w5 ⟨xa, xc, rfl, hx5, hg5⟩
  have hga5 := World.grownBy_alloc w5 (.cells #[.bool GB, .slice xa GV.length xc] 39) none
  have HX : Hid (SliceIs (w5.alloc (.cells #[.bool GB, .slice xa GV.length xc] 39)) (.slice xa GV.length xc) GV) := hx5.grown hga5
  obtain ⟨x0, x1, _, _⟩ := two_cells (heap_alloc_new w5 (.cells #[.bool GB, .slice xa GV.length xc] 39))
  have hg5a := grown_trans hg5 hga5
  have z0 := hg5a.cell y0 (by simp)
  have z1 := hg5a.cell y1 (by simp)
  have z2 := hg5a.cell y2 (by simp)
  have z3 := hg5a.cell y3 (by simp)
  have hg25 := grown_trans hg3 (grown_trans hg4a hg5a)
  clear hx5 y0 y1 y2 y3
  go_wp2_with fail
  refine (HG.out _ _ _ (HL.out.grown (grown_trans hg2 hg25)) (HKY.out.grown hg25)).mono ?_
  rintro e w6 ⟨ya, yc, rfl, hy6, hg6⟩
  have hga6 := World.grownBy_alloc w6 (.cells #[.bool GB, .slice ya GV.length yc] 39) none
  obtain ⟨g0, g1, _, _⟩ := two_cells (heap_alloc_new w6 (.cells #[.bool GB, .slice ya GV.length yc] 39))
  have hg6a := grown_trans hg6 hga6
  have j0 := hg6a.cell z0 (by simp)
  have j1 := hg6a.cell z1 (by simp)
  have j2 := hg6a.cell z2 (by simp)
  have j3 := hg6a.cell z3 (by simp)
  have k0 := hg6a.cell x0 (by simp)
  have k1 := hg6a.cell x1 (by simp)
  have SM : Hid (Calls Tryd.prog 22 #[.slice xa GV.length xc, .slice ya GV.length yc] (w6.alloc (.cells #[.bool GB, .slice ya GV.length yc] 39)) fun e w' => e = .returned (.bool true) ∧ w' = w6.alloc (.cells #[.bool GB, .slice ya GV.length yc] 39)) := by
    have := same_any _ _ _ GV GV (HX.out.grown hg6a) (hy6.grown hga6)
    rw [decide_eq_true rfl] at this
    exact this
  have CK : Hid (Calls Tryd.prog 23 #[.slice ka K.length kc, .agg #[.bool EB, .slice sa n1 sc, .slice qa n2 qc, .slice va n3 vc]] (w6.alloc (.cells #[.bool GB, .slice ya GV.length yc] 39)) fun e w'' => e = .returned (.int .i64 0) ∧ (w6.alloc (.cells #[.bool GB, .slice ya GV.length yc] 39)).grownBy w'' none) := HC.out _ _ _ (HKY.out.grown (grown_trans hg25 hg6a)) (HPF.out.grown (grown_trans hg5a hg6a))
  have hgF := grown_trans hg04a (grown_trans hg5a hg6a)
  clear hy6 z0 z1 z2 z3 x0 x1 HX HG HV HP HR HK HM HPF HRT HC
  have gb1 := gbb.out
  go_wp2_with fail
  refine SM.out.mono ?_
  rintro e w7 ⟨rfl, rfl⟩
  go_wp2_with fail
  refine CK.out.mono ?_
  rintro e w8 ⟨rfl, hg8⟩
  have l0 := hg8.cell j0 (by simp)
  have dec := DEC.out
  go_wp2
  go_ret
  exact ⟨by first | rfl | simp [dec], grown_trans hgF hg8⟩
end Go.Proofs.YtedmhejnbapklaaDoor
