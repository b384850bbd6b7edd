/-
  The walk of the document's answer to P5.7: ForestVerified.
-/
import Derived.Test.YtkkcjnhfbblgiabDoorPart11
import Derived.Test.YtkkcjnhfbblgiabDoorRVer
import Derived.Test.YtkkcjnhfbblgiabDoorRRoot
import Derived.Test.YtkkcjnhfbblgiabDoorProofBut
import Derived.Test.YtkkcjnhfbblgiabDoorPart3
import Derived.Test.YtkkcjnhfbblgiabDoorPart2
namespace Go.Proofs.YtkkcjnhfbblgiabDoor
open Go.RowKit
theorem alloc_named3 (w : World) (o : Obj) : ∃ W : World, Hid (W = w.alloc o) ∧ w.grownBy W none ∧ Hid (W.heap[w.heap.size]? = some o) := ⟨w.alloc o, rfl, World.grownBy_alloc _ _ _, heap_alloc_new w o⟩
theorem find_keep3 {W w : World} {b : Nat} {x y : Value} {t : TypeId} (hg : W.grownBy w none) (h : W.heap[b]? = some (.cells #[x, y] t)) : w.heap[b]? = some (.cells #[x, y] t) := by
  rw [hg.block b (Array.getElem?_eq_some_iff.1 h).1 (by simp)]; exact h
set_option maxRecDepth 100000 in
set_option maxHeartbeats 2000000 in
theorem forestVerified_any (w : World) (r m u o i : Value) (root n k : List UInt8) (p q : Prf) (hr : SliceIs w r root) (hm : SliceIs w m n) (hu : SliceIs w u k) (ho : ProofIs w o p) (hi : ProofIs w i q) (hfp : PrfFits p) (hfq : PrfFits q) :
    Calls Tryd.prog 14 #[r, m, u, o, i] w fun e w' => ∃ x, e = .returned (.tuple #[.agg #[.bool (fverB root n k p q), x], .int .i64 (fverE root n k p q)]) ∧ SliceIs w' x (fverV root n k p q) ∧ w.grownBy w' none := by
  obtain ⟨oa1, oa2, oa3, oa4, oa5, oa6, rfl⟩ := ho.agg
  obtain ⟨ia1, ia2, ia3, ia4, ia5, ia6, rfl⟩ := hi.agg
  obtain ⟨W0, hW0⟩ : ∃ W0 : World, W0 = ((w.alloc (.cells #[.bool p.empty, .slice oa1 p.steps.length oa2, .slice oa3 p.pair.1.length oa4, .slice oa5 p.pair.2.length oa6] 29)).alloc (.cells #[.bool q.empty, .slice ia1 q.steps.length ia2, .slice ia3 q.pair.1.length ia4, .slice ia5 q.pair.2.length ia6] 29)).alloc (.cells #[.bool false, .slice none 0 0] 38) := ⟨_, rfl⟩
  have HW0 : Hid (W0 = ((w.alloc (.cells #[.bool p.empty, .slice oa1 p.steps.length oa2, .slice oa3 p.pair.1.length oa4, .slice oa5 p.pair.2.length oa6] 29)).alloc (.cells #[.bool q.empty, .slice ia1 q.steps.length ia2, .slice ia3 q.pair.1.length ia4, .slice ia5 q.pair.2.length ia6] 29)).alloc (.cells #[.bool false, .slice none 0 0] 38)) := hW0
  have hgW : w.grownBy W0 none := by rw [hW0]; exact grown_alloc (grown_alloc (World.grownBy_alloc _ _ _) _) _
  obtain ⟨O, hO⟩ : ∃ O, O = w.heap.size := ⟨_, rfl⟩
  have BP : Hid (W0.heap[O]? = some (.cells #[.bool p.empty, .slice oa1 p.steps.length oa2, .slice oa3 p.pair.1.length oa4, .slice oa5 p.pair.2.length oa6] 29)) := by
    show _ = _
    rw [hW0, hO, (World.grownBy_alloc _ _ none).block _ (by simp; omega) (by simp), (World.grownBy_alloc _ _ none).block _ (by simp) (by simp)]; exact heap_alloc_new w _
  have BQ : Hid (W0.heap[O + 1]? = some (.cells #[.bool q.empty, .slice ia1 q.steps.length ia2, .slice ia3 q.pair.1.length ia4, .slice ia5 q.pair.2.length ia6] 29)) := by
    have := heap_alloc_new (w.alloc (.cells #[.bool p.empty, .slice oa1 p.steps.length oa2, .slice oa3 p.pair.1.length oa4, .slice oa5 p.pair.2.length oa6] 29)) (.cells #[.bool q.empty, .slice ia1 q.steps.length ia2, .slice ia3 q.pair.1.length ia4, .slice ia5 q.pair.2.length ia6] 29)
    rw [World.size_alloc] at this
    show _ = _
    rw [hW0, hO, (World.grownBy_alloc _ _ none).block _ (by simp) (by simp)]; exact this
  have BF : Hid (W0.heap[O + 1 + 1]? = some (.cells #[.bool false, .slice none 0 0] 38)) := by
    have := heap_alloc_new ((w.alloc (.cells #[.bool p.empty, .slice oa1 p.steps.length oa2, .slice oa3 p.pair.1.length oa4, .slice oa5 p.pair.2.length oa6] 29)).alloc (.cells #[.bool q.empty, .slice ia1 q.steps.length ia2, .slice ia3 q.pair.1.length ia4, .slice ia5 q.pair.2.length ia6] 29)) (.cells #[.bool false, .slice none 0 0] 38)
    rw [World.size_alloc, World.size_alloc] at this
    show _ = _
    rw [hW0, hO]; exact this
  have hsz0 : W0.heap.size = O + 1 + 1 + 1 := by rw [hW0, hO]; simp
  have HSZ : Hid (w.heap.size = O) := hO.symm
  have hFw : w.heap.size ≤ O + 1 + 1 := by omega
  have NM : Hid (Calls Tryd.prog 37 #[m] W0 fun e w' => e = .returned (.int .i64 (nameFaultF n.length)) ∧ w' = W0) := by
    obtain ⟨ma, mc, rfl⟩ := hm.shape
    exact nameFault_any W0 _ _ _
  have VO : Hid (∀ w', w.grownBy w' none → Calls Tryd.prog 38 #[r, m, .agg #[.bool p.empty, .slice oa1 p.steps.length oa2, .slice oa3 p.pair.1.length oa4, .slice oa5 p.pair.2.length oa6]] w' fun e w'' => ∃ x, e = .returned (.tuple #[.agg #[.bool (verB root n p), x], .int .i64 (verE root n p)]) ∧ SliceIs w'' x (verV root n p) ∧ w'.grownBy w'' none) := fun w' hg => verified_any w' r m _ root n p (hr.grown hg) (hm.grown hg) (ho.grown hg) hfp
  have VI : Hid (∀ w' x, w.grownBy w' none → SliceIs w' x (innerR root n p) → Calls Tryd.prog 38 #[x, u, .agg #[.bool q.empty, .slice ia1 q.steps.length ia2, .slice ia3 q.pair.1.length ia4, .slice ia5 q.pair.2.length ia6]] w' fun e w'' => ∃ y, e = .returned (.tuple #[.agg #[.bool (verB (innerR root n p) k q), y], .int .i64 (verE (innerR root n p) k q)]) ∧ SliceIs w'' y (verV (innerR root n p) k q) ∧ w'.grownBy w'' none) := fun w' x hg hx => verified_any w' x u _ _ k q hx (hu.grown hg) (hi.grown hg) hfq
  have TR : Hid (∀ w', Calls Tryd.prog 39 #[] w' fun e w'' => ∃ x, e = .returned x ∧ OwnE w'' x (sumF [0]) ∧ w'.grownBy w'' none) := fun w' => noneDigest_own w'
  obtain ⟨ra, rc, rfl⟩ := hr.shape
  obtain ⟨ma, mc, rfl⟩ := hm.shape
  obtain ⟨ua, uc, rfl⟩ := hu.shape
  generalize p.empty = pe at *
  generalize p.steps.length = ps at *
  generalize p.pair.1.length = pp1 at *
  generalize p.pair.2.length = pp2 at *
  generalize q.empty = qe at *
  generalize q.steps.length = qs at *
  generalize q.pair.1.length = qp1 at *
  generalize q.pair.2.length = qp2 at *
  clear hO hW0 hr hm hu ho hi hfp hfq
  by_cases hn : nameFaultF n.length = 0
  · rw [hn] at NM
    by_cases hv : verE root n p = 0
    · have e1 : fverE root n k p q = verE (innerR root n p) k q := by rw [fverE, if_pos hn, if_pos hv]
      have e2 : fverB root n k p q = verB (innerR root n p) k q := by rw [fverB, if_pos hn, if_pos hv]
      have e3 : fverV root n k p q = verV (innerR root n p) k q := by rw [fverV, if_pos hn, if_pos hv]
      rw [e1, e2, e3]
      rw [hv] at VO
      have HIR : Hid (innerR root n p = if verB root n p = true then verV root n p else sumF [0]) := rfl
      generalize innerR root n p = IR at *
      generalize verB root n p = VB at *
      generalize verV root n p = VV at *
      generalize sumF [0] = S0 at *
      generalize verE IR k q = E at *
      generalize verB IR k q = B at *
      generalize verV IR k q = V at *
      clear e1 e2 e3 hn hv
      go_enter Tryd.func14, Tryd.ntmps14
      go_wp2_with fail
      rw [← HW0.out, HSZ.out]
      refine NM.out.mono ?_
      rintro e w0 ⟨rfl, rfl⟩
      obtain ⟨⟨a0, a1, a2, a3⟩, _⟩ := quad_room (grown_refl w0 none) BP.out
      go_wp2_with fail
      refine (VO.out _ hgW).mono ?_
      rintro e w1 ⟨x, rfl, hx, hg1⟩
      obtain ⟨xa, xc, rfl⟩ := hx.shape
      obtain ⟨W1, HW1, hgA1, B1⟩ := alloc_named3 w1 (.cells #[.bool VB, .slice xa VV.length xc] 38)
      have HX1 : Hid (SliceIs W1 (.slice xa VV.length xc) VV) := hx.grown hgA1
      have hg01 := grown_trans hg1 hgA1
      have hgw1 := grown_trans hgW hg01
      clear hx a0 a1 a2 a3
      go_upto_region 5 with fail
      rw [← HW1.out]
      cases VB with
      | true =>
        have HIV : Hid (IR = VV) := by show _ = _; rw [HIR.out, if_pos rfl]
        obtain ⟨x0, x1, _, _⟩ := pair_room (grown_refl W1 none) B1.out
        obtain ⟨⟨b0, b1, b2, b3⟩, _⟩ := quad_room hg01 BQ.out
        go_wp2_with fail
        refine (VI.out _ _ hgw1 (by rw [HIV.out]; exact HX1.out)).mono ?_
        rintro e w2 ⟨y, rfl, hy, hg2⟩
        obtain ⟨ya, yc, rfl⟩ := hy.shape
        obtain ⟨W2, HW2, hgA2, B2⟩ := alloc_named3 w2 (.cells #[.bool B, .slice ya V.length yc] 38)
        have hy2 := hy.grown hgA2
        have hg02 := grown_trans hg01 (grown_trans hg2 hgA2)
        obtain ⟨z0, z1, _, _⟩ := pair_room (grown_refl W2 none) B2.out
        obtain ⟨cA, cB, fA, fB⟩ := pair_room hg02 BF.out
        obtain ⟨cC, cD⟩ := pair_set hg02 BF.out (.bool B) (.slice ya V.length yc)
        have HS : Hid (SliceIs ((W2.setCell ⟨O + 1 + 1, 0, none⟩ (.bool B)).setCell ⟨O + 1 + 1, 1, none⟩ (.slice ya V.length yc)) (.slice ya V.length yc) V) := hy2.findS (find_keep3 hg02 BF.out) _ _
        have hgF := grown_setNew (grown_setNew (grown_trans hgW hg02) _ hFw 0 (.bool B)) _ hFw 1 (.slice ya V.length yc)
        clear hy hy2 x0 x1 b0 b1 b2 b3
        go_upto_region 11 with fail
        rw [← HW2.out]
        go_wp2
        refine bodyPost_ret (v := .tuple #[.agg #[.bool B, .slice ya V.length yc], .int .i64 E]) (by simp [results, Tryd.results14, go_sem, cC, cD]) rfl ?_
        exact ⟨_, rfl, HS.out, hgF⟩
      | false =>
        have HIV : Hid (IR = S0) := by show _ = _; rw [HIR.out, if_neg (by simp)]
        obtain ⟨x0, x1, _, _⟩ := pair_room (grown_refl W1 none) B1.out
        go_wp2_with fail
        refine (TR.out _).mono ?_
        rintro e w2 ⟨y, rfl, hy, hg2⟩
        have HY2 : Hid (SliceIs w2 y S0) := hy.slice
        obtain ⟨ob, hoy⟩ := hy
        obtain ⟨da, dc, rfl⟩ := hoy.shape
        have hg03 := grown_trans hg01 hg2
        have hgw3 := grown_trans hgW hg03
        obtain ⟨⟨b0, b1, b2, b3⟩, _⟩ := quad_room hg03 BQ.out
        clear hoy x0 x1
        generalize List.length S0 = s0l at *
        go_wp2_with fail
        refine (VI.out _ _ hgw3 (by rw [HIV.out]; exact HY2.out)).mono ?_
        rintro e w4 ⟨y, rfl, hy, hg4⟩
        obtain ⟨ya, yc, rfl⟩ := hy.shape
        obtain ⟨W2, HW2, hgA2, B2⟩ := alloc_named3 w4 (.cells #[.bool B, .slice ya V.length yc] 38)
        have hy2 := hy.grown hgA2
        have hg02 := grown_trans hg03 (grown_trans hg4 hgA2)
        obtain ⟨z0, z1, _, _⟩ := pair_room (grown_refl W2 none) B2.out
        obtain ⟨cA, cB, fA, fB⟩ := pair_room hg02 BF.out
        obtain ⟨cC, cD⟩ := pair_set hg02 BF.out (.bool B) (.slice ya V.length yc)
        have HS : Hid (SliceIs ((W2.setCell ⟨O + 1 + 1, 0, none⟩ (.bool B)).setCell ⟨O + 1 + 1, 1, none⟩ (.slice ya V.length yc)) (.slice ya V.length yc) V) := hy2.findS (find_keep3 hg02 BF.out) _ _
        have hgF := grown_setNew (grown_setNew (grown_trans hgW hg02) _ hFw 0 (.bool B)) _ hFw 1 (.slice ya V.length yc)
        clear hy hy2 b0 b1 b2 b3
        go_upto_region 11 with fail
        rw [← HW2.out]
        go_wp2
        refine bodyPost_ret (v := .tuple #[.agg #[.bool B, .slice ya V.length yc], .int .i64 E]) (by simp [results, Tryd.results14, go_sem, cC, cD]) rfl ?_
        exact ⟨_, rfl, HS.out, hgF⟩
    · have e1 : fverE root n k p q = verE root n p := by rw [fverE, if_pos hn, if_neg hv]
      have e2 : fverB root n k p q = false := by rw [fverB, if_pos hn, if_neg hv]
      have e3 : fverV root n k p q = [] := by rw [fverV, if_pos hn, if_neg hv]
      rw [e1, e2, e3]
      generalize verE root n p = z at *
      generalize verB root n p = VB at *
      generalize verV root n p = VV at *
      have hz' : (z != 0) = true := by simpa using hv
      clear e1 e2 e3 hn hv VI TR
      go_enter Tryd.func14, Tryd.ntmps14
      go_wp2_with fail
      rw [← HW0.out, HSZ.out]
      refine NM.out.mono ?_
      rintro e w0 ⟨rfl, rfl⟩
      obtain ⟨⟨a0, a1, a2, a3⟩, _⟩ := quad_room (grown_refl w0 none) BP.out
      go_wp2_with fail
      refine (VO.out _ hgW).mono ?_
      rintro e w1 ⟨x, rfl, hx, hg1⟩
      obtain ⟨xa, xc, rfl⟩ := hx.shape
      obtain ⟨W1, HW1, hgA1, B1⟩ := alloc_named3 w1 (.cells #[.bool VB, .slice xa VV.length xc] 38)
      have hg01 := grown_trans hg1 hgA1
      clear hx a0 a1 a2 a3
      go_upto_region 5 with fail
      rw [← HW1.out]
      obtain ⟨cA, cB, fA, fB⟩ := pair_room hg01 BF.out
      obtain ⟨cC, cD⟩ := pair_set hg01 BF.out (.bool false) (.slice none 0 0)
      have hgF := grown_setNew (grown_setNew (grown_trans hgW hg01) _ hFw 0 (.bool false)) _ hFw 1 (.slice none 0 0)
      go_wp2
      refine bodyPost_ret (v := .tuple #[.agg #[.bool false, .slice none 0 0], .int .i64 z]) (by simp [results, Tryd.results14, go_sem, cC, cD]) rfl ?_
      exact ⟨_, rfl, sliceIs_nil _, hgF⟩
  · have e1 : fverE root n k p q = nameFaultF n.length := by rw [fverE, if_neg hn]
    have e2 : fverB root n k p q = false := by rw [fverB, if_neg hn]
    have e3 : fverV root n k p q = [] := by rw [fverV, if_neg hn]
    rw [e1, e2, e3]
    generalize nameFaultF n.length = z at *
    have hz' : (z != 0) = true := by simpa using hn
    clear e1 e2 e3 hn VI TR VO
    go_enter Tryd.func14, Tryd.ntmps14
    go_wp2_with fail
    rw [← HW0.out, HSZ.out]
    refine NM.out.mono ?_
    rintro e w0 ⟨rfl, rfl⟩
    obtain ⟨cA, cB, fA, fB⟩ := pair_room (grown_refl w0 none) BF.out
    obtain ⟨cC, cD⟩ := pair_set (grown_refl w0 none) BF.out (.bool false) (.slice none 0 0)
    have hgF := grown_setNew (grown_setNew hgW _ hFw 0 (.bool false)) _ hFw 1 (.slice none 0 0)
    go_wp2
    refine bodyPost_ret (v := .tuple #[.agg #[.bool false, .slice none 0 0], .int .i64 z]) (by simp [results, Tryd.results14, go_sem, cC, cD]) rfl ?_
    exact ⟨_, rfl, sliceIs_nil _, hgF⟩
end Go.Proofs.YtkkcjnhfbblgiabDoor
