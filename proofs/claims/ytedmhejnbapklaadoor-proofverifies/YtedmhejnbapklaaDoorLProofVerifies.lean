/-
  The walk of canopylaw.ProofVerifies, over what the code must keep.
-/
import Derived.Test.YtedmhejnbapklaaDoorPart4
import Derived.Test.YtedmhejnbapklaaDoorPart6
import Derived.Test.YtedmhejnbapklaaDoorLFind
import Derived.Test.YtedmhejnbapklaaDoorRVer
import Derived.Test.YtedmhejnbapklaaDoorOctets
import Derived.Deep.RegionHeld3
import Derived.Deep.RegionWith
import Derived.Handy
namespace Go.Proofs.YtedmhejnbapklaaDoor
open Go.RowKit
theorem ProofIs.aggV {w : World} {v : Value} {p : Prf} (h : ProofIs w v p) : ∃ sa sc ka kc va vc, v = .agg #[.bool p.empty, .slice sa p.steps.length sc, .slice ka p.pair.1.length kc, .slice va p.pair.2.length vc] := by
  obtain ⟨vs, vk, vv, rfl, hs, h1, h2⟩ := h
  obtain ⟨sa, sc, rfl⟩ := hs.shape
  obtain ⟨ka, kc, rfl⟩ := h1.shape
  obtain ⟨va, vc, rfl⟩ := h2.shape
  exact ⟨sa, sc, ka, kc, va, vc, rfl⟩
/-- A slice of bytes stands where a finding's block is written. -/
theorem SliceIs.findSet {w : World} {v : Value} {bs : List UInt8} (h : SliceIs w v bs) {nb : Nat} {b : Bool} {xa : Option Addr} {xn xc : Nat} {t : TypeId} (hb : w.heap[nb]? = some (.cells #[.bool b, .slice xa xn xc] t)) (u1 u2 : Value) :
    SliceIs ((w.setCell ⟨nb, 0, none⟩ u1).setCell ⟨nb, 1, none⟩ u2) v bs := by
  obtain ⟨a, cap, rfl, hc, h⟩ := h
  refine ⟨a, cap, rfl, hc, ?_⟩
  rcases h with h | ⟨c, o, rfl, h⟩
  · exact .inl h
  · refine .inr ⟨c, o, rfl, fun i hi => ?_⟩
    have hx := h i hi
    have hne : c ≠ nb := by
      rintro rfl
      match hj : o + i with
      | 0 => rw [hj] at hx; simp [World.cell?, hb] at hx
      | 1 => rw [hj] at hx; simp [World.cell?, hb] at hx
      | n + 2 => rw [hj] at hx; simp [World.cell?, hb] at hx
    rw [World.cell?_setCell_other _ _ _ _ (fun e => hne (congrArg Addr.block e).symm), World.cell?_setCell_other _ _ _ _ (fun e => hne (congrArg Addr.block e).symm)]
    exact hx
theorem hid_elim {P G : Prop} (h : P) (k : Hid P → G) : G := k h
theorem cell_two {w : World} {b c i : Nat} {v : Value} (h : w.cell? ⟨b, i, none⟩ = some v) (hne : b ≠ c) {x y : Value} :
    ((w.setCell ⟨c, 0, none⟩ x).setCell ⟨c, 1, none⟩ y).cell? ⟨b, i, none⟩ = some v := by
  rw [World.cell?_setCell_other _ _ _ _ (fun e => hne (congrArg Addr.block e).symm), World.cell?_setCell_other _ _ _ _ (fun e => hne (congrArg Addr.block e).symm)]
  exact h
set_option maxRecDepth 100000 in
set_option maxHeartbeats 4000000 in
theorem proofVerifies_walk (hC : PVerifyOK) (w : World) (r u v : Value) (root k : List UInt8) (p : Prf) (hr : SliceIs w r root) (hu : SliceIs w u k) (hv : ProofIs w v p) (hrl : root.length ≤ 140737488355328) (hk : k.length ≤ 140737488355328) (hf : PrfFits p) (ht : Tabs w) :
    Calls Tryd.prog 4 #[r, u, v] w fun e w' => e = .returned (.bool true) ∧ w.grownBy w' none := by
  obtain ⟨sa, sc, ka, kc, va, vc, rfl⟩ := hv.aggV
  obtain ⟨ra, rc, rfl⟩ := hr.shape
  obtain ⟨ua, uc, rfl⟩ := hu.shape
  obtain ⟨W1, hW1⟩ : ∃ W1 : World, W1 = w.alloc (.cells #[.bool p.empty, .slice sa p.steps.length sc, .slice ka p.pair.1.length kc, .slice va p.pair.2.length vc] 29) := ⟨_, rfl⟩
  have hgW : w.grownBy W1 none := by rw [hW1]; exact World.grownBy_alloc _ _ _
  have HW1 : Hid (W1 = w.alloc (.cells #[.bool p.empty, .slice sa p.steps.length sc, .slice ka p.pair.1.length kc, .slice va p.pair.2.length vc] 29)) := hW1
  have bP : W1.heap[w.heap.size]? = some (.cells #[.bool p.empty, .slice sa p.steps.length sc, .slice ka p.pair.1.length kc, .slice va p.pair.2.length vc] 29) := by rw [hW1]; exact heap_alloc_new w _
  obtain ⟨⟨a0, a1, a2, a3⟩, _⟩ := quad_room (grown_refl W1 none) bP
  have P1 : Hid (Calls Tryd.prog 14 #[.agg #[.bool p.empty, .slice sa p.steps.length sc, .slice ka p.pair.1.length kc, .slice va p.pair.2.length vc]] W1 fun e w' => ∃ x, e = .returned x ∧ ProofIs w' x p ∧ W1.grownBy w' none) := proofs_any W1 _ p (hv.grown hgW) hf
  have OR : Hid (∀ w', W1.grownBy w' none → Calls Tryd.prog 10 #[.slice ra root.length rc] w' fun e w'' => ∃ v', e = .returned v' ∧ Own w'.heap.size w'' v' root ∧ w'.grownBy w'' none) := fun w' hg => octets_any w' _ root ((hr.grown hgW).grown hg) hrl
  have OC : Hid (∀ w', W1.grownBy w' none → Calls Tryd.prog 10 #[.slice ua k.length uc] w' fun e w'' => ∃ v', e = .returned v' ∧ Own w'.heap.size w'' v' k ∧ w'.grownBy w'' none) := fun w' hg => octets_any w' _ k ((hu.grown hgW).grown hg) hk
  have CK : Hid (∀ (w' : World) (x y z : Value), W1.grownBy w' none → SliceIs w' x root → SliceIs w' y k → ProofIs w' z p → Calls Tryd.prog 15 #[x, y, z] w' fun e w'' => ∃ fa fc, e = .returned (.tuple #[.agg #[.bool (verB root k p), .slice fa (verV root k p).length fc], .int .i64 (verE root k p)]) ∧ SliceIs w'' (.slice fa (verV root k p).length fc) (verV root k p) ∧ w'.grownBy w'' none) := fun w' x y z hg h1 h2 h3 => (hC w' x y z root k p h1 h2 h3 hf (ht.grownNone (grown_trans hgW hg))).mono (by
    rintro e w'' ⟨f, rfl, hf, hg'⟩
    obtain ⟨fa, fc, rfl⟩ := hf.shape
    exact ⟨fa, fc, rfl, hf, hg'⟩)
  have PF : Hid (∀ w', W1.grownBy w' none → Calls Tryd.prog 16 #[.slice ra root.length rc, .slice ua k.length uc, .agg #[.bool p.empty, .slice sa p.steps.length sc, .slice ka p.pair.1.length kc, .slice va p.pair.2.length vc]] w' fun e w'' => ∃ fa fc, e = .returned (.tuple #[.agg #[.bool (verB root k p), .slice fa (verV root k p).length fc], .int .i64 (verE root k p)]) ∧ SliceIs w'' (.slice fa (verV root k p).length fc) (verV root k p) ∧ w'.grownBy w'' none) := fun w' hg => (verified_any w' _ _ _ root k p ((hr.grown hgW).grown hg) ((hu.grown hgW).grown hg) ((hv.grown hgW).grown hg) hf).mono (by
    rintro e w'' ⟨f, rfl, hf, hg'⟩
    obtain ⟨fa, fc, rfl⟩ := hf.shape
    exact ⟨fa, fc, rfl, hf, hg'⟩)
  have SP : Hid (∀ (w' : World) (y : Value), W1.grownBy w' none → ProofIs w' y p → Calls Tryd.prog 12 #[y, .agg #[.bool p.empty, .slice sa p.steps.length sc, .slice ka p.pair.1.length kc, .slice va p.pair.2.length vc]] w' fun e w'' => e = .returned (.bool true) ∧ w'.grownBy w'' none) := fun w' y hg hy => sameProof_same w' _ _ p hy ((hv.grown hgW).grown hg) (by have := hf.1; omega)
  have SF : Hid (∀ w' x y, SliceIs w' x (verV root k p) → SliceIs w' y (verV root k p) → Calls Tryd.prog 17 #[.agg #[.bool (verB root k p), x], .agg #[.bool (verB root k p), y]] w' fun e w'' => e = .returned (.bool true) ∧ w'.grownBy w'' none) := fun w' x y h1 h2 => by
    have := sameFinding_any w' (verB root k p) (verB root k p) x y _ _ h1 h2
    simpa using this
  have SH : Hid (∀ (w' : World) (y : Value), ProofIs w' y p → ∃ sa sc ka kc va vc, y = .agg #[.bool p.empty, .slice sa p.steps.length sc, .slice ka p.pair.1.length kc, .slice va p.pair.2.length vc]) := fun w' y h => h.aggV
  have GR : Hid (∀ (w' w'' : World) (y : Value), ProofIs w' y p → w'.grownBy w'' none → ProofIs w'' y p) := fun _ _ _ h hg => h.grown hg
  generalize verE root k p = VE at *
  generalize verB root k p = VB at *
  generalize verV root k p = VV at *
  generalize root.length = nr at *
  generalize k.length = nu at *
  generalize p.steps.length = ns at *
  generalize p.pair.1.length = nk at *
  generalize p.pair.2.length = nv at *
  generalize p.empty = pe at *
  clear hv hu hr hC hf hW1 bP hk hrl ht
  go_enter Tryd.func4, Tryd.ntmps4
  go_wp2_with fail
  rw [← HW1.out]
  refine P1.out.mono ?_
  rintro e w1 ⟨x, rfl, hx, hg1⟩
  obtain ⟨xa, xc, ya, yc, za, zc, rfl⟩ := SH.out _ _ hx
  have HX1 : Hid (ProofIs w1 (.agg #[.bool pe, .slice xa ns xc, .slice ya nk yc, .slice za nv zc]) p) := hx
  clear hx P1
  obtain ⟨W2, hW2⟩ : ∃ W2 : World, W2 = w1.alloc (.cells #[.bool pe, .slice xa ns xc, .slice ya nk yc, .slice za nv zc] 29) := ⟨_, rfl⟩
  have hg2 : w1.grownBy W2 none := by rw [hW2]; exact World.grownBy_alloc _ _ _
  have HW2 : Hid (W2 = w1.alloc (.cells #[.bool pe, .slice xa ns xc, .slice ya nk yc, .slice za nv zc] 29)) := hW2
  have hsz2 : w1.heap.size < W2.heap.size := by rw [hW2]; simp
  have bQ : W2.heap[w1.heap.size]? = some (.cells #[.bool pe, .slice xa ns xc, .slice ya nk yc, .slice za nv zc] 29) := by rw [hW2]; exact heap_alloc_new w1 _
  obtain ⟨⟨b0, b1, b2, b3⟩, _⟩ := quad_room (grown_refl W2 none) bQ
  have hg12 := grown_trans hg1 hg2
  have HX2 : Hid (ProofIs W2 (.agg #[.bool pe, .slice xa ns xc, .slice ya nk yc, .slice za nv zc]) p) := GR.out _ _ _ HX1.out hg2
  clear hW2 bQ HX1
  go_upto_region 2 with fail
  rw [← HW2.out]
  go_cut [8, 9] from 12 (fun s8 s9 wx => ∃ (nb : Nat) (fa : Option Addr) (fc : Nat), s8 = .pointer (some ⟨nb, 0, none⟩) ∧ s9 = .int .i64 VE ∧ wx.heap[nb]? = some (.cells #[.bool VB, .slice fa VV.length fc] 39) ∧ SliceIs wx (.slice fa VV.length fc) VV ∧ W2.grownBy wx none)
  case first =>
    have hgd := grown_drew (grown_refl W2 none)
    obtain ⟨WA, hWA⟩ : ∃ WA : World, WA = W2.alloc (.cells #[.bool false, .slice none 0 0] 39) := ⟨_, rfl⟩
    have hgA : W2.grownBy WA.drew none := by rw [hWA]; exact grown_drew (World.grownBy_alloc _ _ _)
    have HPA : Hid (WA.drew.heap[W2.heap.size]? = some (.cells #[.bool false, .slice none 0 0] 39)) := by rw [hWA]; exact heap_alloc_new W2 _
    have HWA : Hid (WA = W2.alloc (.cells #[.bool false, .slice none 0 0] 39)) := hWA
    clear hWA
    have hwz : w1.heap.size ≠ W2.heap.size := by omega
    have c0 := hgd.cell b0 (by simp)
    have c1 := hgd.cell b1 (by simp)
    have c2 := hgd.cell b2 (by simp)
    have c3 := hgd.cell b3 (by simp)
    have m0 := hgA.cell b0 (by simp)
    have m1 := hgA.cell b1 (by simp)
    have m2 := hgA.cell b2 (by simp)
    have m3 := hgA.cell b3 (by simp)
    go_region_held3 (fun w' => w'.cell? ⟨w1.heap.size, 0, none⟩ = some (.bool pe) ∧ w'.cell? ⟨w1.heap.size, 1, none⟩ = some (.slice xa ns xc) ∧ w'.cell? ⟨w1.heap.size, 2, none⟩ = some (.slice ya nk yc) ∧ w'.cell? ⟨w1.heap.size, 3, none⟩ = some (.slice za nv zc))
      (first | with_reducible exact ⟨c0, c1, c2, c3⟩ | (rw [← HWA.out]; with_reducible exact ⟨m0, m1, m2, m3⟩) | with_reducible exact ⟨j0, j1, j2, j3⟩ | with_reducible exact ⟨g0, g1, g2, g3⟩ | with_reducible exact ⟨f0, f1, f2, f3⟩ | with_reducible exact ⟨(World.grownBy_alloc _ _ none).cell j0 (by simp), (World.grownBy_alloc _ _ none).cell j1 (by simp), (World.grownBy_alloc _ _ none).cell j2 (by simp), (World.grownBy_alloc _ _ none).cell j3 (by simp)⟩ | with_reducible exact ⟨(World.grownBy_alloc _ _ none).cell g0 (by simp), (World.grownBy_alloc _ _ none).cell g1 (by simp), (World.grownBy_alloc _ _ none).cell g2 (by simp), (World.grownBy_alloc _ _ none).cell g3 (by simp)⟩ | with_reducible exact ⟨(World.grownBy_alloc _ _ none).cell f0 (by simp), (World.grownBy_alloc _ _ none).cell f1 (by simp), (World.grownBy_alloc _ _ none).cell f2 (by simp), (World.grownBy_alloc _ _ none).cell f3 (by simp)⟩ | with_reducible exact ⟨cell_two j0 hnz, cell_two j1 hnz, cell_two j2 hnz, cell_two j3 hnz⟩)
      (first
        | (go_at_call 10
           first
             | (rw [← HWA.out]; with_reducible refine (OR.out _ (grown_trans hg12 hgA)).mono ?_
                rintro e w3 ⟨v3, rfl, ho3, hg3⟩
                have hgk : W2.grownBy w3 none := grown_trans hgA hg3
                have HB3 : Hid (w3.heap[W2.heap.size]? = some (.cells #[.bool false, .slice none 0 0] 39)) := pair_old hg3 HPA.out)
             | (with_reducible refine (OR.out _ (grown_trans hg12 hgd)).mono ?_
                rintro e w3 ⟨v3, rfl, ho3, hg3⟩
                have hgk : W2.grownBy w3 none := grown_trans hgd hg3)
           have f0 := hgk.cell b0 (by simp)
           have f1 := hgk.cell b1 (by simp)
           have f2 := hgk.cell b2 (by simp)
           have f3 := hgk.cell b3 (by simp)
           have z3 := hgk.size
           obtain ⟨oa, oc, rfl⟩ := ho3.shape
           have HO3 : Hid (SliceIs w3 (.slice oa root.length oc) root) := ho3.slice
           clear ho3)
        | (go_at_call 10
           first
             | (with_reducible refine (OC.out _ (grown_trans hg12 hgk)).mono ?_
                rintro e w4 ⟨v4, rfl, ho4, hg4⟩
                have hgl : W2.grownBy w4 none := grown_trans hgk hg4
                have HO4 : Hid (SliceIs w4 (.slice oa root.length oc) root) := HO3.out.grown hg4
                first
                  | (refine hid_elim (pair_old hg4 HB3.out) ?_; intro HB4A)
                  | skip)
             | (with_reducible refine (OC.out _ (grown_trans hg12 (grown_alloc hgk _))).mono ?_
                rintro e w4 ⟨v4, rfl, ho4, hg4⟩
                have hgl : W2.grownBy w4 none := grown_trans (grown_alloc hgk _) hg4
                have HO4 : Hid (SliceIs w4 (.slice oa root.length oc) root) := (HO3.out.alloc _).grown hg4
                have HB4B : Hid (w4.heap[w3.heap.size]? = some (.cells #[.bool false, .slice none 0 0] 39)) := pair_old hg4 (heap_alloc_new w3 _))
           have g0 := hgl.cell b0 (by simp)
           have g1 := hgl.cell b1 (by simp)
           have g2 := hgl.cell b2 (by simp)
           have g3 := hgl.cell b3 (by simp)
           have z4 := hgl.size
           obtain ⟨qa, qc, rfl⟩ := ho4.shape
           have HQ4 : Hid (SliceIs w4 (.slice qa k.length qc) k) := ho4.slice
           clear ho4)
        | (go_at_call 15
           first
             | (with_reducible refine (CK.out _ _ _ _ (grown_trans hg12 hgl) HO4.out HQ4.out (GR.out _ _ _ HX2.out hgl)).mono ?_
                rintro e w5 ⟨fa, fc, rfl, hf5, hg5⟩
                have hgm : W2.grownBy w5 none := grown_trans hgl hg5)
             | (with_reducible refine (CK.out _ _ _ _ (grown_trans hg12 (grown_alloc hgl _)) (HO4.out.alloc _) (HQ4.out.alloc _) (GR.out _ _ _ HX2.out (grown_alloc hgl _))).mono ?_
                rintro e w5 ⟨fa, fc, rfl, hf5, hg5⟩
                have hgm : W2.grownBy w5 none := grown_trans (grown_alloc hgl _) hg5)
           have j0 := hgm.cell b0 (by simp)
           have j1 := hgm.cell b1 (by simp)
           have j2 := hgm.cell b2 (by simp)
           have j3 := hgm.cell b3 (by simp)
           have z5 := hgm.size
           have HF5 : Hid (SliceIs w5 (.slice fa VV.length fc) VV) := hf5
           clear hf5
           first
             | (refine pair_room_elim (b := W2.heap.size) hg5 HB4A.out ?_; intro hpb0 cA cB fA fB; have HPB : Hid (w5.heap[W2.heap.size]? = some (.cells #[.bool false, .slice none 0 0] 39)) := hpb0; clear hpb0; have hnz := hwz)
             | (refine pair_room_elim (b := w3.heap.size) hg5 HB4B.out ?_; intro hpb0 cA cB fA fB; have HPB : Hid (w5.heap[w3.heap.size]? = some (.cells #[.bool false, .slice none 0 0] 39)) := hpb0; clear hpb0; have hnz : w1.heap.size ≠ w3.heap.size := by omega)
             | (refine pair_room_elim (b := w4.heap.size) hg5 (heap_alloc_new w4 (.cells #[.bool false, .slice none 0 0] 39)) ?_; intro hpb0 cA cB fA fB; have HPB : Hid (w5.heap[w4.heap.size]? = some (.cells #[.bool false, .slice none 0 0] 39)) := hpb0; clear hpb0; have hnz : w1.heap.size ≠ w4.heap.size := by omega)
             | skip))
    all_goals (go_wp2_with fail; go_meet; case rel =>
      first
        | exact ⟨w5.heap.size, fa, fc, rfl, rfl, heap_alloc_new w5 _, HF5.out.alloc _, grown_alloc hgm _⟩
        | exact ⟨W2.heap.size, fa, fc, rfl, rfl, two_set HPB.out _ _, HF5.out.findSet HPB.out _ _, grown_setNew (grown_setNew hgm _ (Nat.le_refl _) _ _) _ (Nat.le_refl _) _ _⟩
        | exact ⟨w3.heap.size, fa, fc, rfl, rfl, two_set HPB.out _ _, HF5.out.findSet HPB.out _ _, grown_setNew (grown_setNew hgm _ z3 _ _) _ z3 _ _⟩
        | exact ⟨w4.heap.size, fa, fc, rfl, rfl, two_set HPB.out _ _, HF5.out.findSet HPB.out _ _, grown_setNew (grown_setNew hgm _ z4 _ _) _ z4 _ _⟩)
  case rest =>
    obtain ⟨nb, fa, fc, rfl, rfl, hnb, hfx, hgx⟩ := hcut
    obtain ⟨W3, hW3⟩ : ∃ W3 : World, W3 = wc := ⟨_, rfl⟩
    subst hW3
    have HNB : Hid (W3.heap[nb]? = some (.cells #[.bool VB, .slice fa VV.length fc] 39)) := hnb
    have HFX : Hid (SliceIs W3 (.slice fa VV.length fc) VV) := hfx
    have d0 := (grown_trans hg12 hgx).cell a0 (by simp)
    have d1 := (grown_trans hg12 hgx).cell a1 (by simp)
    have d2 := (grown_trans hg12 hgx).cell a2 (by simp)
    have d3 := (grown_trans hg12 hgx).cell a3 (by simp)
    have e0 := hgx.cell b0 (by simp)
    have e1 := hgx.cell b1 (by simp)
    have e2 := hgx.cell b2 (by simp)
    have e3 := hgx.cell b3 (by simp)
    clear OC OR CK hnb hfx a0 a1 a2 a3 b0 b1 b2 b3 hsz2
    go_wp2_with fail
    refine (PF.out _ (grown_trans hg12 hgx)).mono ?_
    rintro e w6 ⟨ga, gc, rfl, hg6s, hg6⟩
    obtain ⟨W4, hW4⟩ : ∃ W4 : World, W4 = w6.alloc (.cells #[.bool VB, .slice ga VV.length gc] 39) := ⟨_, rfl⟩
    have HW4 : Hid (W4 = w6.alloc (.cells #[.bool VB, .slice ga VV.length gc] 39)) := hW4
    have hga6 : w6.grownBy W4 none := by rw [hW4]; exact World.grownBy_alloc _ _ _
    have hg6a := grown_trans hg6 hga6
    obtain ⟨n0, n1, _, _⟩ := two_cells (pair_old hg6a HNB.out)
    obtain ⟨o0, o1, _, _⟩ : W4.cell? ⟨w6.heap.size, 0, none⟩ = some (.bool VB) ∧ W4.cell? ⟨w6.heap.size, 1, none⟩ = some (.slice ga VV.length gc) ∧ True ∧ True := by
      rw [hW4]
      obtain ⟨h1, h2, _, _⟩ := two_cells (heap_alloc_new w6 (.cells #[.bool VB, .slice ga VV.length gc] 39))
      exact ⟨h1, h2, trivial, trivial⟩
    have r0 := hg6a.cell d0 (by simp)
    have r1 := hg6a.cell d1 (by simp)
    have r2 := hg6a.cell d2 (by simp)
    have r3 := hg6a.cell d3 (by simp)
    have s0 := hg6a.cell e0 (by simp)
    have s1 := hg6a.cell e1 (by simp)
    have s2 := hg6a.cell e2 (by simp)
    have s3 := hg6a.cell e3 (by simp)
    have hEE : (VE == VE) = true := by simp
    have hg16 := grown_trans (grown_trans hg12 hgx) hg6a
    have SF6 : Hid (Calls Tryd.prog 17 #[.agg #[.bool VB, .slice fa VV.length fc], .agg #[.bool VB, .slice ga VV.length gc]] W4 fun e w'' => e = .returned (.bool true) ∧ W4.grownBy w'' none) := SF.out _ _ _ (HFX.out.grown hg6a) (hg6s.grown hga6)
    clear hW4 hg6s d0 d1 d2 d3 e0 e1 e2 e3 PF SF
    go_wp2_with (rw [← HW4.out])
    refine SF6.out.mono ?_
    rintro e w7 ⟨rfl, hg7⟩
    have u0 := hg7.cell r0 (by simp)
    have u1 := hg7.cell r1 (by simp)
    have u2 := hg7.cell r2 (by simp)
    have u3 := hg7.cell r3 (by simp)
    have v0 := hg7.cell s0 (by simp)
    have v1 := hg7.cell s1 (by simp)
    have v2 := hg7.cell s2 (by simp)
    have v3 := hg7.cell s3 (by simp)
    have hg17 := grown_trans hg16 hg7
    have HX7 := GR.out _ _ _ HX2.out (grown_trans (grown_trans hgx hg6a) hg7)
    clear r0 r1 r2 r3 s0 s1 s2 s3
    go_wp2_with fail
    refine (SP.out _ _ hg17 HX7).mono ?_
    rintro e w8 ⟨rfl, hg8⟩
    go_wp2
    go_ret
    exact ⟨rfl, grown_trans hgW (grown_trans hg17 hg8)⟩
end Go.Proofs.YtedmhejnbapklaaDoor
