/-
  The walk of canopylaw.ForestVerifies, over what the code must keep.
-/
import Derived.Test.YtkkcjnhfbblgiabDoorRForV
import Derived.Test.YtkkcjnhfbblgiabDoorPart4
import Derived.Test.YtkkcjnhfbblgiabDoorLProofs
import Derived.Test.YtkkcjnhfbblgiabDoorLFind
import Derived.Test.YtkkcjnhfbblgiabDoorOctets
import Derived.Deep.RegionHeld3
import Derived.Deep.RegionWith
import Derived.Handy
namespace Go.Proofs.YtkkcjnhfbblgiabDoor
open Go.RowKit
theorem hid_elim {P G : Prop} (h : P) (k : Hid P → G) : G := k h
theorem cell_two6 {w : World} {b c i : Nat} {v : Value} (h : w.cell? ⟨b, i, none⟩ = some v) (hne : b ≠ c) {x y : Value} :
    ((w.setCell ⟨c, 0, none⟩ x).setCell ⟨c, 1, none⟩ y).cell? ⟨b, i, none⟩ = some v := by
  rw [World.cell?_setCell_other _ _ _ _ (fun e => hne (congrArg Addr.block e).symm), World.cell?_setCell_other _ _ _ _ (fun e => hne (congrArg Addr.block e).symm)]
  exact h
set_option maxRecDepth 100000 in
set_option maxHeartbeats 4000000 in
theorem forestVerifies_walk (hC : FVerifyOK) (w : World) (r m u o i : Value) (root n k : List UInt8) (p q : Prf) (hr : SliceIs w r root) (hm : SliceIs w m n) (hu : SliceIs w u k) (ho : ProofIs w o p) (hi : ProofIs w i q) (hrl : root.length ≤ 140737488355328) (hnl : n.length ≤ 140737488355328) (hkl : k.length ≤ 140737488355328) (hfp : PrfFits p) (hfq : PrfFits q) (ht : Tabs w) :
    Calls Tryd.prog 4 #[r, m, u, o, i] w fun e w' => e = .returned (.bool true) ∧ w.grownBy w' none := by
  obtain ⟨oa1, oa2, oa3, oa4, oa5, oa6, rfl⟩ := ho.agg
  obtain ⟨ia1, ia2, ia3, ia4, ia5, ia6, rfl⟩ := hi.agg
  obtain ⟨ra, rc, rfl⟩ := hr.shape
  obtain ⟨ma, mc, rfl⟩ := hm.shape
  obtain ⟨ua, uc, rfl⟩ := hu.shape
  obtain ⟨W0, hW0⟩ : ∃ W0 : World, W0 = (w.alloc (.cells #[.bool p.empty, .slice oa1 p.steps.length oa2, .slice oa3 p.pair.1.length oa4, .slice oa5 p.pair.2.length oa6] 29)).alloc (.cells #[.bool q.empty, .slice ia1 q.steps.length ia2, .slice ia3 q.pair.1.length ia4, .slice ia5 q.pair.2.length ia6] 29) := ⟨_, rfl⟩
  have HW0 : Hid (W0 = (w.alloc (.cells #[.bool p.empty, .slice oa1 p.steps.length oa2, .slice oa3 p.pair.1.length oa4, .slice oa5 p.pair.2.length oa6] 29)).alloc (.cells #[.bool q.empty, .slice ia1 q.steps.length ia2, .slice ia3 q.pair.1.length ia4, .slice ia5 q.pair.2.length ia6] 29)) := hW0
  have hgW : w.grownBy W0 none := by rw [hW0]; exact grown_alloc (World.grownBy_alloc _ _ _) _
  obtain ⟨O, hO⟩ : ∃ O, O = w.heap.size := ⟨_, rfl⟩
  have BP : W0.heap[O]? = some (.cells #[.bool p.empty, .slice oa1 p.steps.length oa2, .slice oa3 p.pair.1.length oa4, .slice oa5 p.pair.2.length oa6] 29) := by
    rw [hW0, hO, (World.grownBy_alloc _ _ none).block _ (by simp) (by simp)]; exact heap_alloc_new w _
  have BQ : W0.heap[O + 1]? = some (.cells #[.bool q.empty, .slice ia1 q.steps.length ia2, .slice ia3 q.pair.1.length ia4, .slice ia5 q.pair.2.length ia6] 29) := by
    have := heap_alloc_new (w.alloc (.cells #[.bool p.empty, .slice oa1 p.steps.length oa2, .slice oa3 p.pair.1.length oa4, .slice oa5 p.pair.2.length oa6] 29)) (.cells #[.bool q.empty, .slice ia1 q.steps.length ia2, .slice ia3 q.pair.1.length ia4, .slice ia5 q.pair.2.length ia6] 29)
    rw [World.size_alloc] at this
    rw [hW0, hO]; exact this
  have hsz : O + 1 < W0.heap.size := by rw [hW0, hO]; simp
  have HSZ : Hid (w.heap.size = O) := hO.symm
  have OR : Hid (∀ w', W0.grownBy w' none → Calls Tryd.prog 8 #[.slice ra root.length rc] w' fun e w'' => ∃ v', e = .returned v' ∧ Own w'.heap.size w'' v' root ∧ w'.grownBy w'' none) := fun w' hg => octets_any w' _ root ((hr.grown hgW).grown hg) hrl
  have ON : Hid (∀ w', W0.grownBy w' none → Calls Tryd.prog 8 #[.slice ma n.length mc] w' fun e w'' => ∃ v', e = .returned v' ∧ Own w'.heap.size w'' v' n ∧ w'.grownBy w'' none) := fun w' hg => octets_any w' _ n ((hm.grown hgW).grown hg) hnl
  have OC : Hid (∀ w', W0.grownBy w' none → Calls Tryd.prog 8 #[.slice ua k.length uc] w' fun e w'' => ∃ v', e = .returned v' ∧ Own w'.heap.size w'' v' k ∧ w'.grownBy w'' none) := fun w' hg => octets_any w' _ k ((hu.grown hgW).grown hg) hkl
  have PP : Hid (∀ w', W0.grownBy w' none → Calls Tryd.prog 13 #[.agg #[.bool p.empty, .slice oa1 p.steps.length oa2, .slice oa3 p.pair.1.length oa4, .slice oa5 p.pair.2.length oa6]] w' fun e w'' => ∃ x, e = .returned x ∧ ProofIs w'' x p ∧ w'.grownBy w'' none) := fun w' hg => proofs_any w' _ p ((ho.grown hgW).grown hg) hfp
  have PQ : Hid (∀ w', W0.grownBy w' none → Calls Tryd.prog 13 #[.agg #[.bool q.empty, .slice ia1 q.steps.length ia2, .slice ia3 q.pair.1.length ia4, .slice ia5 q.pair.2.length ia6]] w' fun e w'' => ∃ x, e = .returned x ∧ ProofIs w'' x q ∧ w'.grownBy w'' none) := fun w' hg => proofs_any w' _ q ((hi.grown hgW).grown hg) hfq
  have CK : Hid (∀ (w' : World) (x y z s t : Value), W0.grownBy w' none → SliceIs w' x root → SliceIs w' y n → SliceIs w' z k → ProofIs w' s p → ProofIs w' t q → Calls Tryd.prog 12 #[x, y, z, s, t] w' fun e w'' => ∃ fa fc, e = .returned (.tuple #[.agg #[.bool (fverB root n k p q), .slice fa (fverV root n k p q).length fc], .int .i64 (fverE root n k p q)]) ∧ SliceIs w'' (.slice fa (fverV root n k p q).length fc) (fverV root n k p q) ∧ w'.grownBy w'' none) := fun w' x y z s t hg h1 h2 h3 h4 h5 => (hC w' x y z s t root n k p q h1 h2 h3 h4 h5 hfp hfq (ht.grownNone (grown_trans hgW hg))).mono (by
    rintro e w'' ⟨f, rfl, hf, hg'⟩
    obtain ⟨fa, fc, rfl⟩ := hf.shape
    exact ⟨fa, fc, rfl, hf, hg'⟩)
  have PF : Hid (∀ w', W0.grownBy w' none → Calls Tryd.prog 14 #[.slice ra root.length rc, .slice ma n.length mc, .slice ua k.length uc, .agg #[.bool p.empty, .slice oa1 p.steps.length oa2, .slice oa3 p.pair.1.length oa4, .slice oa5 p.pair.2.length oa6], .agg #[.bool q.empty, .slice ia1 q.steps.length ia2, .slice ia3 q.pair.1.length ia4, .slice ia5 q.pair.2.length ia6]] w' fun e w'' => ∃ fa fc, e = .returned (.tuple #[.agg #[.bool (fverB root n k p q), .slice fa (fverV root n k p q).length fc], .int .i64 (fverE root n k p q)]) ∧ SliceIs w'' (.slice fa (fverV root n k p q).length fc) (fverV root n k p q) ∧ w'.grownBy w'' none) := fun w' hg => (forestVerified_any w' _ _ _ _ _ root n k p q ((hr.grown hgW).grown hg) ((hm.grown hgW).grown hg) ((hu.grown hgW).grown hg) ((ho.grown hgW).grown hg) ((hi.grown hgW).grown hg) hfp hfq).mono (by
    rintro e w'' ⟨f, rfl, hf, hg'⟩
    obtain ⟨fa, fc, rfl⟩ := hf.shape
    exact ⟨fa, fc, rfl, hf, hg'⟩)
  have SF : Hid (∀ w' x y, SliceIs w' x (fverV root n k p q) → SliceIs w' y (fverV root n k p q) → Calls Tryd.prog 15 #[.agg #[.bool (fverB root n k p q), x], .agg #[.bool (fverB root n k p q), y]] w' fun e w'' => e = .returned (.bool true) ∧ w'.grownBy w'' none) := fun w' x y h1 h2 => by
    have := sameFinding_any w' (fverB root n k p q) (fverB root n k p q) x y _ _ h1 h2
    simpa using this
  have SHp : Hid (∀ (w' : World) (y : Value), ProofIs w' y p → ∃ sa sc ka kc va vc, y = .agg #[.bool p.empty, .slice sa p.steps.length sc, .slice ka p.pair.1.length kc, .slice va p.pair.2.length vc]) := fun w' y h => h.agg
  have SHq : Hid (∀ (w' : World) (y : Value), ProofIs w' y q → ∃ sa sc ka kc va vc, y = .agg #[.bool q.empty, .slice sa q.steps.length sc, .slice ka q.pair.1.length kc, .slice va q.pair.2.length vc]) := fun w' y h => h.agg
  obtain ⟨⟨b0, b1, b2, b3⟩, _⟩ := quad_room (grown_refl W0 none) BP
  obtain ⟨⟨b4, b5, b6, b7⟩, _⟩ := quad_room (grown_refl W0 none) BQ
  generalize fverE root n k p q = VE at *
  generalize fverB root n k p q = VB at *
  generalize fverV root n k p q = VV at *
  generalize hnr : root.length = nr at OR PF
  generalize hnm : n.length = nm at ON PF
  generalize hnu : k.length = nu at OC PF
  generalize p.steps.length = ps at *
  generalize p.pair.1.length = pp1 at *
  generalize p.pair.2.length = pp2 at *
  generalize p.empty = pe at *
  generalize q.steps.length = qs at *
  generalize q.pair.1.length = qp1 at *
  generalize q.pair.2.length = qp2 at *
  generalize q.empty = qe at *
  clear hr hm hu ho hi hC hfp hfq hW0 BP BQ hrl hnl hkl ht hO hnr hnm hnu
  go_enter Tryd.func4, Tryd.ntmps4
  go_upto_region 1 with fail
  rw [← HW0.out, HSZ.out]
  go_cut [11, 12] from 15 (fun s8 s9 wx => ∃ (nb : Nat) (fa : Option Addr) (fc : Nat), s8 = .pointer (some ⟨nb, 0, none⟩) ∧ s9 = .int .i64 VE ∧ wx.heap[nb]? = some (.cells #[.bool VB, .slice fa VV.length fc] 38) ∧ SliceIs wx (.slice fa VV.length fc) VV ∧ W0.grownBy wx none)
  case first =>
    have hgd := grown_drew (grown_refl W0 none)
    obtain ⟨WA, hWA⟩ : ∃ WA : World, WA = W0.alloc (.cells #[.bool false, .slice none 0 0] 38) := ⟨_, rfl⟩
    have hgA : W0.grownBy WA.drew none := by rw [hWA]; exact grown_drew (World.grownBy_alloc _ _ _)
    have HPA : Hid (WA.drew.heap[W0.heap.size]? = some (.cells #[.bool false, .slice none 0 0] 38)) := by rw [hWA]; exact heap_alloc_new W0 _
    have HWA : Hid (WA = W0.alloc (.cells #[.bool false, .slice none 0 0] 38)) := hWA
    clear hWA
    have c0 := hgd.cell b0 (by simp)
    have m0 := hgA.cell b0 (by simp)
    have c1 := hgd.cell b1 (by simp)
    have m1 := hgA.cell b1 (by simp)
    have c2 := hgd.cell b2 (by simp)
    have m2 := hgA.cell b2 (by simp)
    have c3 := hgd.cell b3 (by simp)
    have m3 := hgA.cell b3 (by simp)
    have c4 := hgd.cell b4 (by simp)
    have m4 := hgA.cell b4 (by simp)
    have c5 := hgd.cell b5 (by simp)
    have m5 := hgA.cell b5 (by simp)
    have c6 := hgd.cell b6 (by simp)
    have m6 := hgA.cell b6 (by simp)
    have c7 := hgd.cell b7 (by simp)
    have m7 := hgA.cell b7 (by simp)
    go_region_held3 (fun w' => w'.cell? ⟨O, 0, none⟩ = some (.bool pe) ∧ w'.cell? ⟨O, 1, none⟩ = some (.slice oa1 ps oa2) ∧ w'.cell? ⟨O, 2, none⟩ = some (.slice oa3 pp1 oa4) ∧ w'.cell? ⟨O, 3, none⟩ = some (.slice oa5 pp2 oa6) ∧ w'.cell? ⟨O + 1, 0, none⟩ = some (.bool qe) ∧ w'.cell? ⟨O + 1, 1, none⟩ = some (.slice ia1 qs ia2) ∧ w'.cell? ⟨O + 1, 2, none⟩ = some (.slice ia3 qp1 ia4) ∧ w'.cell? ⟨O + 1, 3, none⟩ = some (.slice ia5 qp2 ia6))
      (first | with_reducible exact ⟨c0, c1, c2, c3, c4, c5, c6, c7⟩ | (rw [← HWA.out]; with_reducible exact ⟨m0, m1, m2, m3, m4, m5, m6, m7⟩) | with_reducible exact ⟨f6_0, f6_1, f6_2, f6_3, f6_4, f6_5, f6_6, f6_7⟩ | with_reducible exact ⟨f5_0, f5_1, f5_2, f5_3, f5_4, f5_5, f5_6, f5_7⟩ | with_reducible exact ⟨f4_0, f4_1, f4_2, f4_3, f4_4, f4_5, f4_6, f4_7⟩ | with_reducible exact ⟨f3_0, f3_1, f3_2, f3_3, f3_4, f3_5, f3_6, f3_7⟩ | with_reducible exact ⟨f2_0, f2_1, f2_2, f2_3, f2_4, f2_5, f2_6, f2_7⟩ | with_reducible exact ⟨f1_0, f1_1, f1_2, f1_3, f1_4, f1_5, f1_6, f1_7⟩ | with_reducible exact ⟨(World.grownBy_alloc _ _ none).cell f6_0 (by simp), (World.grownBy_alloc _ _ none).cell f6_1 (by simp), (World.grownBy_alloc _ _ none).cell f6_2 (by simp), (World.grownBy_alloc _ _ none).cell f6_3 (by simp), (World.grownBy_alloc _ _ none).cell f6_4 (by simp), (World.grownBy_alloc _ _ none).cell f6_5 (by simp), (World.grownBy_alloc _ _ none).cell f6_6 (by simp), (World.grownBy_alloc _ _ none).cell f6_7 (by simp)⟩ | with_reducible exact ⟨(World.grownBy_alloc _ _ none).cell f5_0 (by simp), (World.grownBy_alloc _ _ none).cell f5_1 (by simp), (World.grownBy_alloc _ _ none).cell f5_2 (by simp), (World.grownBy_alloc _ _ none).cell f5_3 (by simp), (World.grownBy_alloc _ _ none).cell f5_4 (by simp), (World.grownBy_alloc _ _ none).cell f5_5 (by simp), (World.grownBy_alloc _ _ none).cell f5_6 (by simp), (World.grownBy_alloc _ _ none).cell f5_7 (by simp)⟩ | with_reducible exact ⟨(World.grownBy_alloc _ _ none).cell f4_0 (by simp), (World.grownBy_alloc _ _ none).cell f4_1 (by simp), (World.grownBy_alloc _ _ none).cell f4_2 (by simp), (World.grownBy_alloc _ _ none).cell f4_3 (by simp), (World.grownBy_alloc _ _ none).cell f4_4 (by simp), (World.grownBy_alloc _ _ none).cell f4_5 (by simp), (World.grownBy_alloc _ _ none).cell f4_6 (by simp), (World.grownBy_alloc _ _ none).cell f4_7 (by simp)⟩ | with_reducible exact ⟨(World.grownBy_alloc _ _ none).cell f3_0 (by simp), (World.grownBy_alloc _ _ none).cell f3_1 (by simp), (World.grownBy_alloc _ _ none).cell f3_2 (by simp), (World.grownBy_alloc _ _ none).cell f3_3 (by simp), (World.grownBy_alloc _ _ none).cell f3_4 (by simp), (World.grownBy_alloc _ _ none).cell f3_5 (by simp), (World.grownBy_alloc _ _ none).cell f3_6 (by simp), (World.grownBy_alloc _ _ none).cell f3_7 (by simp)⟩ | with_reducible exact ⟨(World.grownBy_alloc _ _ none).cell f2_0 (by simp), (World.grownBy_alloc _ _ none).cell f2_1 (by simp), (World.grownBy_alloc _ _ none).cell f2_2 (by simp), (World.grownBy_alloc _ _ none).cell f2_3 (by simp), (World.grownBy_alloc _ _ none).cell f2_4 (by simp), (World.grownBy_alloc _ _ none).cell f2_5 (by simp), (World.grownBy_alloc _ _ none).cell f2_6 (by simp), (World.grownBy_alloc _ _ none).cell f2_7 (by simp)⟩ | with_reducible exact ⟨(World.grownBy_alloc _ _ none).cell f1_0 (by simp), (World.grownBy_alloc _ _ none).cell f1_1 (by simp), (World.grownBy_alloc _ _ none).cell f1_2 (by simp), (World.grownBy_alloc _ _ none).cell f1_3 (by simp), (World.grownBy_alloc _ _ none).cell f1_4 (by simp), (World.grownBy_alloc _ _ none).cell f1_5 (by simp), (World.grownBy_alloc _ _ none).cell f1_6 (by simp), (World.grownBy_alloc _ _ none).cell f1_7 (by simp)⟩ | with_reducible exact ⟨cell_two6 f6_0 hnz, cell_two6 f6_1 hnz, cell_two6 f6_2 hnz, cell_two6 f6_3 hnz, cell_two6 f6_4 hnz1, cell_two6 f6_5 hnz1, cell_two6 f6_6 hnz1, cell_two6 f6_7 hnz1⟩)
      (first
        | (go_at_call_of 8 (Value.slice ra nr rc)
           first
             | ((first | (rw [← HWA.out]) | fail); (first | (with_reducible refine (OR.out _ hgA).mono ?_) | fail); (first | (rintro e w1 ⟨y1, rfl, ho, hs⟩) | fail); (first | (have hG1 : W0.grownBy w1 none := grown_trans hgA hs) | fail); (first | (have HB1_0 : Hid (w1.heap[W0.heap.size]? = some (.cells #[.bool false, .slice none 0 0] 38)) := pair_old hs HPA.out) | fail))
             | ((first | (with_reducible refine (OR.out _ (hgd)).mono ?_) | fail); (first | (rintro e w1 ⟨y1, rfl, ho, hs⟩) | fail); (first | (have hG1 : W0.grownBy w1 none := grown_trans hgd hs) | fail))
           have f1_0 := hG1.cell b0 (by simp)
           have f1_1 := hG1.cell b1 (by simp)
           have f1_2 := hG1.cell b2 (by simp)
           have f1_3 := hG1.cell b3 (by simp)
           have f1_4 := hG1.cell b4 (by simp)
           have f1_5 := hG1.cell b5 (by simp)
           have f1_6 := hG1.cell b6 (by simp)
           have f1_7 := hG1.cell b7 (by simp)
           have z1 := hG1.size
           obtain ⟨xa1, xc1, rfl⟩ := ho.shape
           have H1_1 : Hid (SliceIs w1 (.slice xa1 root.length xc1) root) := ho.slice
           clear ho hs)
        | (go_at_call_of 8 (Value.slice ma nm mc)
           first
             | ((first | (with_reducible refine (ON.out _ (hG1)).mono ?_) | fail); (first | (rintro e w2 ⟨y2, rfl, ho, hs⟩) | fail); (first | (have hG2 : W0.grownBy w2 none := grown_trans hG1 hs) | fail); (first | (refine hid_elim (pair_old hs HB1_0.out) ?_; intro HB2_0) | skip))
             | ((first | (with_reducible refine (ON.out _ (grown_alloc hG1 _)).mono ?_) | fail); (first | (rintro e w2 ⟨y2, rfl, ho, hs⟩) | fail); (first | (have hG2 : W0.grownBy w2 none := grown_trans (grown_alloc hG1 _) hs) | fail); (first | (have HB2_1 : Hid (w2.heap[w1.heap.size]? = some (.cells #[.bool false, .slice none 0 0] 38)) := pair_old hs (heap_alloc_new w1 _)) | fail))
           have f2_0 := hG2.cell b0 (by simp)
           have f2_1 := hG2.cell b1 (by simp)
           have f2_2 := hG2.cell b2 (by simp)
           have f2_3 := hG2.cell b3 (by simp)
           have f2_4 := hG2.cell b4 (by simp)
           have f2_5 := hG2.cell b5 (by simp)
           have f2_6 := hG2.cell b6 (by simp)
           have f2_7 := hG2.cell b7 (by simp)
           have z2 := hG2.size
           obtain ⟨xa2, xc2, rfl⟩ := ho.shape
           have H2_2 : Hid (SliceIs w2 (.slice xa2 n.length xc2) n) := ho.slice
           have H1_2 : Hid (SliceIs w2 (.slice xa1 root.length xc1) root) := by first | exact H1_1.out.grown hs | exact (H1_1.out.grown (World.grownBy_alloc _ _ _)).grown hs
           clear ho hs)
        | (go_at_call_of 8 (Value.slice ua nu uc)
           first
             | ((first | (with_reducible refine (OC.out _ (hG2)).mono ?_) | fail); (first | (rintro e w3 ⟨y3, rfl, ho, hs⟩) | fail); (first | (have hG3 : W0.grownBy w3 none := grown_trans hG2 hs) | fail); (first | (refine hid_elim (pair_old hs HB2_0.out) ?_; intro HB3_0) | (refine hid_elim (pair_old hs HB2_1.out) ?_; intro HB3_1) | skip))
             | ((first | (with_reducible refine (OC.out _ (grown_alloc hG2 _)).mono ?_) | fail); (first | (rintro e w3 ⟨y3, rfl, ho, hs⟩) | fail); (first | (have hG3 : W0.grownBy w3 none := grown_trans (grown_alloc hG2 _) hs) | fail); (first | (have HB3_2 : Hid (w3.heap[w2.heap.size]? = some (.cells #[.bool false, .slice none 0 0] 38)) := pair_old hs (heap_alloc_new w2 _)) | fail))
           have f3_0 := hG3.cell b0 (by simp)
           have f3_1 := hG3.cell b1 (by simp)
           have f3_2 := hG3.cell b2 (by simp)
           have f3_3 := hG3.cell b3 (by simp)
           have f3_4 := hG3.cell b4 (by simp)
           have f3_5 := hG3.cell b5 (by simp)
           have f3_6 := hG3.cell b6 (by simp)
           have f3_7 := hG3.cell b7 (by simp)
           have z3 := hG3.size
           obtain ⟨xa3, xc3, rfl⟩ := ho.shape
           have H3_3 : Hid (SliceIs w3 (.slice xa3 k.length xc3) k) := ho.slice
           have H1_3 : Hid (SliceIs w3 (.slice xa1 root.length xc1) root) := by first | exact H1_2.out.grown hs | exact (H1_2.out.grown (World.grownBy_alloc _ _ _)).grown hs
           have H2_3 : Hid (SliceIs w3 (.slice xa2 n.length xc2) n) := by first | exact H2_2.out.grown hs | exact (H2_2.out.grown (World.grownBy_alloc _ _ _)).grown hs
           clear ho hs)
        | (go_at_call_of 13 (Value.agg #[.bool pe, .slice oa1 ps oa2, .slice oa3 pp1 oa4, .slice oa5 pp2 oa6])
           first
             | ((first | (with_reducible refine (PP.out _ (hG3)).mono ?_) | fail); (first | (rintro e w4 ⟨y4, rfl, ho, hs⟩) | fail); (first | (have hG4 : W0.grownBy w4 none := grown_trans hG3 hs) | fail); (first | (refine hid_elim (pair_old hs HB3_0.out) ?_; intro HB4_0) | (refine hid_elim (pair_old hs HB3_1.out) ?_; intro HB4_1) | (refine hid_elim (pair_old hs HB3_2.out) ?_; intro HB4_2) | skip))
             | ((first | (with_reducible refine (PP.out _ (grown_alloc hG3 _)).mono ?_) | fail); (first | (rintro e w4 ⟨y4, rfl, ho, hs⟩) | fail); (first | (have hG4 : W0.grownBy w4 none := grown_trans (grown_alloc hG3 _) hs) | fail); (first | (have HB4_3 : Hid (w4.heap[w3.heap.size]? = some (.cells #[.bool false, .slice none 0 0] 38)) := pair_old hs (heap_alloc_new w3 _)) | fail))
           have f4_0 := hG4.cell b0 (by simp)
           have f4_1 := hG4.cell b1 (by simp)
           have f4_2 := hG4.cell b2 (by simp)
           have f4_3 := hG4.cell b3 (by simp)
           have f4_4 := hG4.cell b4 (by simp)
           have f4_5 := hG4.cell b5 (by simp)
           have f4_6 := hG4.cell b6 (by simp)
           have f4_7 := hG4.cell b7 (by simp)
           have z4 := hG4.size
           obtain ⟨s41, s42, s43, s44, s45, s46, rfl⟩ := SHp.out _ _ ho
           have H4_4 : Hid (ProofIs w4 (.agg #[.bool pe, .slice s41 ps s42, .slice s43 pp1 s44, .slice s45 pp2 s46]) p) := ho
           have H1_4 : Hid (SliceIs w4 (.slice xa1 root.length xc1) root) := by first | exact H1_3.out.grown hs | exact (H1_3.out.grown (World.grownBy_alloc _ _ _)).grown hs
           have H2_4 : Hid (SliceIs w4 (.slice xa2 n.length xc2) n) := by first | exact H2_3.out.grown hs | exact (H2_3.out.grown (World.grownBy_alloc _ _ _)).grown hs
           have H3_4 : Hid (SliceIs w4 (.slice xa3 k.length xc3) k) := by first | exact H3_3.out.grown hs | exact (H3_3.out.grown (World.grownBy_alloc _ _ _)).grown hs
           clear ho hs)
        | (go_at_call_of 13 (Value.agg #[.bool qe, .slice ia1 qs ia2, .slice ia3 qp1 ia4, .slice ia5 qp2 ia6])
           first
             | ((first | (with_reducible refine (PQ.out _ (hG4)).mono ?_) | fail); (first | (rintro e w5 ⟨y5, rfl, ho, hs⟩) | fail); (first | (have hG5 : W0.grownBy w5 none := grown_trans hG4 hs) | fail); (first | (refine hid_elim (pair_old hs HB4_0.out) ?_; intro HB5_0) | (refine hid_elim (pair_old hs HB4_1.out) ?_; intro HB5_1) | (refine hid_elim (pair_old hs HB4_2.out) ?_; intro HB5_2) | (refine hid_elim (pair_old hs HB4_3.out) ?_; intro HB5_3) | skip))
             | ((first | (with_reducible refine (PQ.out _ (grown_alloc hG4 _)).mono ?_) | fail); (first | (rintro e w5 ⟨y5, rfl, ho, hs⟩) | fail); (first | (have hG5 : W0.grownBy w5 none := grown_trans (grown_alloc hG4 _) hs) | fail); (first | (have HB5_4 : Hid (w5.heap[w4.heap.size]? = some (.cells #[.bool false, .slice none 0 0] 38)) := pair_old hs (heap_alloc_new w4 _)) | fail))
           have f5_0 := hG5.cell b0 (by simp)
           have f5_1 := hG5.cell b1 (by simp)
           have f5_2 := hG5.cell b2 (by simp)
           have f5_3 := hG5.cell b3 (by simp)
           have f5_4 := hG5.cell b4 (by simp)
           have f5_5 := hG5.cell b5 (by simp)
           have f5_6 := hG5.cell b6 (by simp)
           have f5_7 := hG5.cell b7 (by simp)
           have z5 := hG5.size
           obtain ⟨s51, s52, s53, s54, s55, s56, rfl⟩ := SHq.out _ _ ho
           have H5_5 : Hid (ProofIs w5 (.agg #[.bool qe, .slice s51 qs s52, .slice s53 qp1 s54, .slice s55 qp2 s56]) q) := ho
           have H1_5 : Hid (SliceIs w5 (.slice xa1 root.length xc1) root) := by first | exact H1_4.out.grown hs | exact (H1_4.out.grown (World.grownBy_alloc _ _ _)).grown hs
           have H2_5 : Hid (SliceIs w5 (.slice xa2 n.length xc2) n) := by first | exact H2_4.out.grown hs | exact (H2_4.out.grown (World.grownBy_alloc _ _ _)).grown hs
           have H3_5 : Hid (SliceIs w5 (.slice xa3 k.length xc3) k) := by first | exact H3_4.out.grown hs | exact (H3_4.out.grown (World.grownBy_alloc _ _ _)).grown hs
           have H4_5 : Hid (ProofIs w5 (.agg #[.bool pe, .slice s41 ps s42, .slice s43 pp1 s44, .slice s45 pp2 s46]) p) := by first | exact H4_4.out.grown hs | exact (H4_4.out.grown (World.grownBy_alloc _ _ _)).grown hs
           clear ho hs)
        | (go_at_call 12
           first
             | ((first | (with_reducible refine (CK.out _ _ _ _ _ _ (hG5) H1_5.out H2_5.out H3_5.out H4_5.out H5_5.out).mono ?_) | fail); (first | (rintro e w6 ⟨fa, fc, rfl, ho, hs⟩) | fail); (first | (have hG6 : W0.grownBy w6 none := grown_trans hG5 hs) | fail); (first | (skip) | fail))
             | ((first | (with_reducible refine (CK.out _ _ _ _ _ _ (grown_alloc hG5 _) (H1_5.out.grown (World.grownBy_alloc _ _ _)) (H2_5.out.grown (World.grownBy_alloc _ _ _)) (H3_5.out.grown (World.grownBy_alloc _ _ _)) (H4_5.out.grown (World.grownBy_alloc _ _ _)) (H5_5.out.grown (World.grownBy_alloc _ _ _))).mono ?_) | fail); (first | (rintro e w6 ⟨fa, fc, rfl, ho, hs⟩) | fail); (first | (have hG6 : W0.grownBy w6 none := grown_trans (grown_alloc hG5 _) hs) | fail))
           have f6_0 := hG6.cell b0 (by simp)
           have f6_1 := hG6.cell b1 (by simp)
           have f6_2 := hG6.cell b2 (by simp)
           have f6_3 := hG6.cell b3 (by simp)
           have f6_4 := hG6.cell b4 (by simp)
           have f6_5 := hG6.cell b5 (by simp)
           have f6_6 := hG6.cell b6 (by simp)
           have f6_7 := hG6.cell b7 (by simp)
           have z6 := hG6.size
           have HF6 : Hid (SliceIs w6 (.slice fa VV.length fc) VV) := ho
           first
             | (have HPB : Hid (w6.heap[W0.heap.size]? = some (.cells #[.bool false, .slice none 0 0] 38)) := pair_old hs HB5_0.out; obtain ⟨cA, cB, fA, fB⟩ := pair_room (grown_refl w6 none) HPB.out; have hnz : O ≠ W0.heap.size := (by omega); have hnz1 : O + 1 ≠ W0.heap.size := (by omega))
             | (have HPB : Hid (w6.heap[w1.heap.size]? = some (.cells #[.bool false, .slice none 0 0] 38)) := pair_old hs HB5_1.out; obtain ⟨cA, cB, fA, fB⟩ := pair_room (grown_refl w6 none) HPB.out; have hnz : O ≠ w1.heap.size := (by omega); have hnz1 : O + 1 ≠ w1.heap.size := (by omega))
             | (have HPB : Hid (w6.heap[w2.heap.size]? = some (.cells #[.bool false, .slice none 0 0] 38)) := pair_old hs HB5_2.out; obtain ⟨cA, cB, fA, fB⟩ := pair_room (grown_refl w6 none) HPB.out; have hnz : O ≠ w2.heap.size := (by omega); have hnz1 : O + 1 ≠ w2.heap.size := (by omega))
             | (have HPB : Hid (w6.heap[w3.heap.size]? = some (.cells #[.bool false, .slice none 0 0] 38)) := pair_old hs HB5_3.out; obtain ⟨cA, cB, fA, fB⟩ := pair_room (grown_refl w6 none) HPB.out; have hnz : O ≠ w3.heap.size := (by omega); have hnz1 : O + 1 ≠ w3.heap.size := (by omega))
             | (have HPB : Hid (w6.heap[w4.heap.size]? = some (.cells #[.bool false, .slice none 0 0] 38)) := pair_old hs HB5_4.out; obtain ⟨cA, cB, fA, fB⟩ := pair_room (grown_refl w6 none) HPB.out; have hnz : O ≠ w4.heap.size := (by omega); have hnz1 : O + 1 ≠ w4.heap.size := (by omega))
             | (have HPB : Hid (w6.heap[w5.heap.size]? = some (.cells #[.bool false, .slice none 0 0] 38)) := pair_old hs (heap_alloc_new w5 _); obtain ⟨cA, cB, fA, fB⟩ := pair_room (grown_refl w6 none) HPB.out; have hnz : O ≠ w5.heap.size := (by omega); have hnz1 : O + 1 ≠ w5.heap.size := (by omega))
             | skip
           clear ho hs))
    all_goals (go_wp2_with fail; go_meet; case rel =>
      first
        | exact ⟨w6.heap.size, fa, fc, rfl, rfl, heap_alloc_new w6 _, HF6.out.alloc _, grown_alloc hG6 _⟩
        | exact ⟨W0.heap.size, fa, fc, rfl, rfl, two_set HPB.out _ _, HF6.out.findS HPB.out _ _, grown_setNew (grown_setNew hG6 _ (Nat.le_refl _) _ _) _ (Nat.le_refl _) _ _⟩
        | exact ⟨w1.heap.size, fa, fc, rfl, rfl, two_set HPB.out _ _, HF6.out.findS HPB.out _ _, grown_setNew (grown_setNew hG6 _ z1 _ _) _ z1 _ _⟩
        | exact ⟨w2.heap.size, fa, fc, rfl, rfl, two_set HPB.out _ _, HF6.out.findS HPB.out _ _, grown_setNew (grown_setNew hG6 _ z2 _ _) _ z2 _ _⟩
        | exact ⟨w3.heap.size, fa, fc, rfl, rfl, two_set HPB.out _ _, HF6.out.findS HPB.out _ _, grown_setNew (grown_setNew hG6 _ z3 _ _) _ z3 _ _⟩
        | exact ⟨w4.heap.size, fa, fc, rfl, rfl, two_set HPB.out _ _, HF6.out.findS HPB.out _ _, grown_setNew (grown_setNew hG6 _ z4 _ _) _ z4 _ _⟩
        | exact ⟨w5.heap.size, fa, fc, rfl, rfl, two_set HPB.out _ _, HF6.out.findS HPB.out _ _, grown_setNew (grown_setNew hG6 _ z5 _ _) _ z5 _ _⟩)
  case rest =>
    obtain ⟨nb, fa, fc, rfl, rfl, hnb, hfx, hgx⟩ := hcut
    obtain ⟨W3, hW3⟩ : ∃ W3 : World, W3 = wc := ⟨_, rfl⟩
    subst hW3
    have HNB : Hid (W3.heap[nb]? = some (.cells #[.bool VB, .slice fa VV.length fc] 38)) := hnb
    have HFX : Hid (SliceIs W3 (.slice fa VV.length fc) VV) := hfx
    have d0 := hgx.cell b0 (by simp)
    have d1 := hgx.cell b1 (by simp)
    have d2 := hgx.cell b2 (by simp)
    have d3 := hgx.cell b3 (by simp)
    have d4 := hgx.cell b4 (by simp)
    have d5 := hgx.cell b5 (by simp)
    have d6 := hgx.cell b6 (by simp)
    have d7 := hgx.cell b7 (by simp)
    clear OR ON OC PP PQ CK hnb hfx b0 b1 b2 b3 b4 b5 b6 b7
    go_wp2_with fail
    refine (PF.out _ hgx).mono ?_
    rintro e w6 ⟨ga, gc, rfl, hg6s, hg6⟩
    obtain ⟨W4, HW4, hga6, B4⟩ := alloc_named3 w6 (.cells #[.bool VB, .slice ga VV.length gc] 38)
    have hg6a := grown_trans hg6 hga6
    obtain ⟨n0, n1, _, _⟩ := two_cells (pair_old hg6a HNB.out)
    obtain ⟨o0, o1, _, _⟩ := two_cells B4.out
    have hEE : (VE == VE) = true := by simp
    have SF6 : Hid (Calls Tryd.prog 15 #[.agg #[.bool VB, .slice fa VV.length fc], .agg #[.bool VB, .slice ga VV.length gc]] W4 fun e w'' => e = .returned (.bool true) ∧ W4.grownBy w'' none) := SF.out _ _ _ (HFX.out.grown hg6a) (hg6s.grown hga6)
    have hgF := grown_trans hgW (grown_trans hgx hg6a)
    clear hg6s d0 d1 d2 d3 d4 d5 d6 d7 PF SF
    go_upto_region 3 with fail
    rw [← HW4.out]
    go_wp2_with fail
    refine SF6.out.mono ?_
    rintro e w7 ⟨rfl, hg7⟩
    go_wp2
    go_ret
    exact ⟨rfl, grown_trans hgF hg7⟩
end Go.Proofs.YtkkcjnhfbblgiabDoor
