/-
  The walks of canopylaw's proofs and sameProof.
-/
import Derived.Test.YtkkcjnhfbblgiabDoorStepMem
import Derived.Test.YtkkcjnhfbblgiabDoorPart2
import Derived.Test.YtkkcjnhfbblgiabDoorLPairOf
import Derived.Test.YtkkcjnhfbblgiabDoorPart14
import Derived.BigQuiet
namespace Go.Proofs.YtkkcjnhfbblgiabDoor
open Go.RowKit
theorem cell_quad {w : World} {b c i : Nat} {v : Value} (h : w.cell? ⟨b, i, none⟩ = some v) (hne : b ≠ c) {x y z u : Value} :
    ((((w.setCell ⟨c, 0, none⟩ x).setCell ⟨c, 1, none⟩ y).setCell ⟨c, 2, none⟩ z).setCell ⟨c, 3, none⟩ u).cell? ⟨b, i, none⟩ = some v := by
  rw [World.cell?_setCell_other _ _ _ _ (fun e => hne (congrArg Addr.block e).symm), World.cell?_setCell_other _ _ _ _ (fun e => hne (congrArg Addr.block e).symm), World.cell?_setCell_other _ _ _ _ (fun e => hne (congrArg Addr.block e).symm), World.cell?_setCell_other _ _ _ _ (fun e => hne (congrArg Addr.block e).symm)]
  exact h
set_option maxRecDepth 100000 in
set_option maxHeartbeats 2000000 in
theorem proofs_any (w : World) (v : Value) (p : Prf) (hv : ProofIs w v p) (hf : PrfFits p) :
    Calls Tryd.prog 13 #[v] w fun e w' => ∃ x, e = .returned x ∧ ProofIs w' x p ∧ w.grownBy w' none := by
  obtain ⟨vs, vk, vv, rfl, hs, h1, h2⟩ := hv
  obtain ⟨sa, sc, rfl⟩ := hs.shape
  obtain ⟨ka, kc, rfl⟩ := h1.shape
  obtain ⟨va, vc, rfl⟩ := h2.shape
  obtain ⟨W1, hW1⟩ : ∃ W1 : World, W1 = (w.alloc (.cells #[.bool p.empty, .slice sa p.steps.length sc, .slice ka p.pair.1.length kc, .slice va p.pair.2.length vc] 29)).alloc (.cells #[.bool false, .slice none 0 0, .slice none 0 0, .slice none 0 0] 29) := ⟨_, rfl⟩
  have hgW : w.grownBy W1 none := by rw [hW1]; exact grown_alloc (World.grownBy_alloc _ _ _) _
  have HW1 : Hid (W1 = (w.alloc (.cells #[.bool p.empty, .slice sa p.steps.length sc, .slice ka p.pair.1.length kc, .slice va p.pair.2.length vc] 29)).alloc (.cells #[.bool false, .slice none 0 0, .slice none 0 0, .slice none 0 0] 29)) := hW1
  have bP : Hid (W1.heap[w.heap.size]? = some (.cells #[.bool p.empty, .slice sa p.steps.length sc, .slice ka p.pair.1.length kc, .slice va p.pair.2.length vc] 29)) := by
    show _ = _
    rw [hW1]; exact pair_old (World.grownBy_alloc _ _ _) (heap_alloc_new w _)
  have bR : Hid (W1.heap[w.heap.size + 1]? = some (.cells #[.bool false, .slice none 0 0, .slice none 0 0, .slice none 0 0] 29)) := by
    have := heap_alloc_new (w.alloc (.cells #[.bool p.empty, .slice sa p.steps.length sc, .slice ka p.pair.1.length kc, .slice va p.pair.2.length vc] 29)) (.cells #[.bool false, .slice none 0 0, .slice none 0 0, .slice none 0 0] 29)
    rw [World.size_alloc] at this
    show _ = _
    rw [hW1]; exact this
  have HSZ : Hid (W1.heap.size = w.heap.size + 1 + 1) := by
    show _ = _
    rw [hW1]; simp
  obtain ⟨⟨a0, a1, a2, a3⟩, _⟩ := quad_room (grown_refl W1 none) bP.out
  have PO : Hid (∀ w', W1.grownBy w' none → Calls Tryd.prog 36 #[.agg #[.slice ka p.pair.1.length kc, .slice va p.pair.2.length vc]] w' fun e w'' => ∃ vk vv, e = .returned (.agg #[vk, vv]) ∧ Own w'.heap.size w'' vk p.pair.1 ∧ Own w'.heap.size w'' vv p.pair.2 ∧ w'.grownBy w'' none) := fun w' hg => pairOf_any w' _ p.pair ⟨_, _, rfl, h1.grown (grown_trans hgW hg), h2.grown (grown_trans hgW hg)⟩ hf.2.2.1 hf.2.2.2
  have HS : Hid (StepsIs W1 (.slice sa p.steps.length sc) p.steps) := hs.grown hgW
  have HF : Hid (∀ i, i < p.steps.length → (p.steps.getD i noStp).other.length ≤ 140737488355328) := fun i hi => (hf.2.1 i hi).2
  have hfl := hf.1
  generalize hS : p.steps = S at *
  have HEP : Hid (p = ⟨p.empty, S, p.pair⟩) := by
    show _ = _
    rw [← hS]
  clear hS
  clear hs h1 h2 hf hW1
  go_enter Tryd.func13, Tryd.ntmps13
  go_upto_region 1 with fail
  rw [← HW1.out]
  go_cut [3] from 6 (fun sl wx => ∃ (pb : Nat) (xa : Option Addr) (xc : Nat) (ya : Option Addr) (yc : Nat), sl = .pointer (some ⟨pb, 0, none⟩) ∧ W1.heap.size ≤ pb ∧ wx.heap[pb]? = some (.cells #[.bool p.empty, .slice none 0 0, .slice xa p.pair.1.length xc, .slice ya p.pair.2.length yc] 29) ∧ PartS wx (.slice xa p.pair.1.length xc) p.pair.1 ∧ PartS wx (.slice ya p.pair.2.length yc) p.pair.2 ∧ W1.grownBy wx none)
  case first =>
    have hwz : w.heap.size ≠ W1.heap.size := by have := HSZ.out; omega
    have hgd := grown_drew (grown_refl W1 none)
    obtain ⟨WA, hWA⟩ : ∃ WA : World, WA = W1.alloc (.cells #[.bool false, .slice none 0 0, .slice none 0 0, .slice none 0 0] 29) := ⟨_, rfl⟩
    have hgA : W1.grownBy WA.drew none := by rw [hWA]; exact grown_drew (World.grownBy_alloc _ _ _)
    have HPA : Hid (WA.drew.heap[W1.heap.size]? = some (.cells #[.bool false, .slice none 0 0, .slice none 0 0, .slice none 0 0] 29)) := by rw [hWA]; exact heap_alloc_new W1 _
    have e0 := hgd.cell a0 (by simp)
    have e2 := hgd.cell a2 (by simp)
    have e3 := hgd.cell a3 (by simp)
    have h0 := hgA.cell a0 (by simp)
    have h2 := hgA.cell a2 (by simp)
    have h3 := hgA.cell a3 (by simp)
    have HWA : Hid (WA = W1.alloc (.cells #[.bool false, .slice none 0 0, .slice none 0 0, .slice none 0 0] 29)) := hWA
    clear hWA
    go_region_held3 (fun w' => w'.cell? ⟨w.heap.size, 0, none⟩ = some (.bool p.empty) ∧ w'.cell? ⟨w.heap.size, 2, none⟩ = some (.slice ka p.pair.1.length kc) ∧ w'.cell? ⟨w.heap.size, 3, none⟩ = some (.slice va p.pair.2.length vc))
      (first | with_reducible exact ⟨e0, e2, e3⟩ | (rw [← HWA.out]; with_reducible exact ⟨h0, h2, h3⟩) | with_reducible exact ⟨f0, f2, f3⟩ | with_reducible exact ⟨cell_quad f0 hwz, cell_quad f2 hwz, cell_quad f3 hwz⟩ | with_reducible exact ⟨(World.grownBy_alloc _ _ none).cell f0 (by simp), (World.grownBy_alloc _ _ none).cell f2 (by simp), (World.grownBy_alloc _ _ none).cell f3 (by simp)⟩)
      (first
        | (go_at_call 36; rw [← HWA.out]; with_reducible refine (PO.out _ hgA).mono ?_
           rintro e w2 ⟨v2, v3, rfl, ok, ov, hg2⟩; obtain ⟨xa, xc, rfl⟩ := ok.shape; obtain ⟨ya, yc, rfl⟩ := ov.shape
           have hgk : W1.grownBy w2 none := grown_trans hgA hg2
           have f0 := hgk.cell a0 (by simp)
           have f2 := hgk.cell a2 (by simp)
           have f3 := hgk.cell a3 (by simp)
           have z2 := hgk.size
           refine quad_elim (b := W1.heap.size) hg2 HPA.out ?_; intro hpb0 cA cB cC cD fA fB fC fD; have HPB : Hid (w2.heap[W1.heap.size]? = some (.cells #[.bool false, .slice none 0 0, .slice none 0 0, .slice none 0 0] 29)) := hpb0; clear hpb0)
        | (go_at_call 36; with_reducible refine (PO.out _ hgd).mono ?_
           rintro e w2 ⟨v2, v3, rfl, ok, ov, hg2⟩; obtain ⟨xa, xc, rfl⟩ := ok.shape; obtain ⟨ya, yc, rfl⟩ := ov.shape
           have hgk : W1.grownBy w2 none := grown_trans hgd hg2
           have f0 := hgk.cell a0 (by simp)
           have f2 := hgk.cell a2 (by simp)
           have f3 := hgk.cell a3 (by simp)
           have z2 := hgk.size))
    all_goals (go_wp2_with fail; go_meet; case rel =>
      first
        | exact ⟨W1.heap.size, xa, xc, ya, yc, rfl, Nat.le_refl _, (quad_set HPB.out _ _ _ _).1, ok.partS.quad (notB_of (xs := [.slice none 0 0, .slice none 0 0, .slice none 0 0]) HPB.out proofT (fun q => by simp)), ov.partS.quad (notB_of (xs := [.slice none 0 0, .slice none 0 0, .slice none 0 0]) HPB.out proofT (fun q => by simp)), grown_quad hgk _ (Nat.le_refl _) _ _ _ _⟩
        | exact ⟨w2.heap.size, xa, xc, ya, yc, rfl, z2, heap_alloc_new w2 _, (ok.alloc _).partS, (ov.alloc _).partS, grown_alloc hgk _⟩)
  case rest =>
    obtain ⟨pb, xa, xc, ya, yc, rfl, hpbl, hpb, hk1, hv1, hgx⟩ := hcut
    have OC : Hid (∀ (w' : World) (i : Nat) (vo : Value), i < S.length → SliceIs w' vo (S.getD i noStp).other → Calls Tryd.prog 8 #[vo] w' fun e w'' => ∃ v', e = .returned v' ∧ Own w'.heap.size w'' v' (S.getD i noStp).other ∧ w'.grownBy w'' none) := fun w' i vo hi h => octets_any w' vo _ h (HF.out i hi)
    have hpbc : pb < wc.heap.size := (Array.getElem?_eq_some_iff.1 hpb).1
    have hsz0 := HSZ.out
    go_wp2_with fail
    go_loopw [4] (fun s4 wr => ∃ (m : Nat) (ta : Option Addr) (tc : Nat), m ≤ S.length ∧ s4 = .int .i64 (m : Int) ∧ wr.heap[pb]? = some (.cells #[.bool p.empty, .slice ta m tc, .slice xa p.pair.1.length xc, .slice ya p.pair.2.length yc] 29) ∧ OwnS wc.heap.size wr (.slice ta m tc) (S.take m) ∧ PartS wr (.slice xa p.pair.1.length xc) p.pair.1 ∧ PartS wr (.slice ya p.pair.2.length yc) p.pair.2 ∧ W1.grownBy wr none ∧ wc.heap.size ≤ wr.heap.size) (fun s4 _ => S.length - (intOf s4).toNat)
    case atStart => exact ⟨0, none, 0, by omega, rfl, hpb, ownS_nil _ _, hk1, hv1, hgx, Nat.le_refl _⟩
    case round =>
      clear hpb hk1 hv1 hgx
      obtain ⟨m, ta, tc, hm, rfl, hpb, hown, hk1, hv1, hgr, hszr⟩ := hrel
      have r1 := hgr.cell a1 (by simp)
      obtain ⟨⟨p0, p1, p2, p3⟩, _⟩ := quad_room (grown_refl wr none) hpb
      by_cases hlt : m < S.length
      · have t1 : (m : Int) < (S.length : Int) := by omega
        obtain ⟨b, o, rfl, hat⟩ := HS.out.at m hlt
        obtain ⟨vo, x1, x2, x3, s1⟩ := hat.grown hgr
        have HT : Hid (S.take (m + 1) = S.take m ++ [S.getD m noStp]) := by
          show _ = _
          rw [List.take_succ_eq_append_getElem hlt]; simp [hlt]
        have hga := World.grownBy_alloc wr (.cells #[.int .i64 (S.getD m noStp).bit, .bool (S.getD m noStp).right, vo] 71) none
        have OM : Hid (Calls Tryd.prog 8 #[vo] (wr.alloc (.cells #[.int .i64 (S.getD m noStp).bit, .bool (S.getD m noStp).right, vo] 71)) fun e w'' => ∃ v', e = .returned v' ∧ Own (wr.alloc (.cells #[.int .i64 (S.getD m noStp).bit, .bool (S.getD m noStp).right, vo] 71)).heap.size w'' v' (S.getD m noStp).other ∧ (wr.alloc (.cells #[.int .i64 (S.getD m noStp).bit, .bool (S.getD m noStp).right, vo] 71)).grownBy w'' none) := OC.out _ m vo hlt (s1.grown hga)
        have hlm : (S.take m).length = m := by simp; omega
        obtain ⟨oa, oc, rfl⟩ := s1.shape
        generalize S.getD m noStp = st at *
        have HO : Hid (OwnS wc.heap.size wr (.slice ta m tc) (S.take m)) := hown
        have HB : Hid (wr.heap[pb]? = some (.cells #[.bool p.empty, .slice ta m tc, .slice xa p.pair.1.length xc, .slice ya p.pair.2.length yc] 29)) := hpb
        have HK1 : Hid (PartS wr (.slice xa p.pair.1.length xc) p.pair.1) := hk1
        have HV1 : Hid (PartS wr (.slice ya p.pair.2.length yc) p.pair.2) := hv1
        obtain ⟨⟨y0, y1, y2⟩, _⟩ := three_cells (heap_alloc_new wr (.cells #[.int .i64 st.bit, .bool st.right, .slice oa st.other.length oc] 71))
        generalize S.take m = D at *
        clear hat s1 hown hpb hk1 hv1 OC
        go_wp2_with fail
        refine OM.out.mono ?_
        rintro e w2 ⟨v2, rfl, ho2, hg2⟩
        obtain ⟨za, zc, rfl⟩ := ho2.shape
        have hq2 := pair_old hg2 (heap_alloc_new wr (.cells #[.int .i64 st.bit, .bool st.right, .slice oa st.other.length oc] 71))
        obtain ⟨⟨z0, z1, z2⟩, g0, g1, g2⟩ := three_cells hq2
        have hq3 := three_last hq2 (.slice za st.other.length zc)
        obtain ⟨⟨j0, j1, j2⟩, _⟩ := three_cells hq3
        have hgr2 := grown_trans hga hg2
        have hpb2 := pair_old hgr2 HB.out
        have hne1 : pb ≠ wr.heap.size := by omega
        have hpb3 := set_other_block (i := 2) (u := .slice za st.other.length zc) hpb2 hne1
        obtain ⟨⟨k0, k1, k2, k3⟩, _⟩ := quad_room (grown_refl _ none) hpb3
        have hNB : NotB w2 wr.heap.size := notB_of (xs := [.bool st.right, .slice oa st.other.length oc]) hq2 stepT (fun q => by simp)
        have HO3 : Hid (OwnS wc.heap.size (w2.setCell ⟨wr.heap.size, 2, none⟩ (.slice za st.other.length zc)) (.slice ta m tc) D) := (HO.out.grownNone hgr2).setNe hNB (HO.out.notRow (.inr (Nat.le_refl _))) _ _
        have HP3 : Hid (PartS (w2.setCell ⟨wr.heap.size, 2, none⟩ (.slice za st.other.length zc)) (.slice za st.other.length zc) st.other) := ho2.partS.set hNB _ _
        have HK3 : Hid (PartS (w2.setCell ⟨wr.heap.size, 2, none⟩ (.slice za st.other.length zc)) (.slice xa p.pair.1.length xc) p.pair.1) := (HK1.out.grown hgr2).set hNB _ _
        have HV3 : Hid (PartS (w2.setCell ⟨wr.heap.size, 2, none⟩ (.slice za st.other.length zc)) (.slice ya p.pair.2.length yc) p.pair.2) := (HV1.out.grown hgr2).set hNB _ _
        have hgr3 : wr.grownBy (w2.setCell ⟨wr.heap.size, 2, none⟩ (.slice za st.other.length zc)) none := grown_setNew hgr2 _ (Nat.le_refl _) _ _
        have HPB3 : Hid ((w2.setCell ⟨wr.heap.size, 2, none⟩ (.slice za st.other.length zc)).heap[pb]? = some (.cells #[.bool p.empty, .slice ta m tc, .slice xa p.pair.1.length xc, .slice ya p.pair.2.length yc] 29)) := hpb3
        have hsz3 := hgr3.size
        have HN : Hid (((w2.setCell ⟨wr.heap.size, 2, none⟩ (.slice za st.other.length zc)).alloc (.cells #[.int .i64 st.bit, .bool st.right, .slice za st.other.length zc] 71)).heap[w2.heap.size]? = some (.cells #[.int .i64 st.bit, .bool st.right, .slice za st.other.length zc] 71)) := by
          have := heap_alloc_new (w2.setCell ⟨wr.heap.size, 2, none⟩ (.slice za st.other.length zc)) (.cells #[.int .i64 st.bit, .bool st.right, .slice za st.other.length zc] 71)
          rw [show (w2.setCell ⟨wr.heap.size, 2, none⟩ (.slice za st.other.length zc)).heap.size = w2.heap.size by simp [World.setCell]] at this
          exact this
        have HPB4 : Hid (((w2.setCell ⟨wr.heap.size, 2, none⟩ (.slice za st.other.length zc)).alloc (.cells #[.int .i64 st.bit, .bool st.right, .slice za st.other.length zc] 71)).heap[pb]? = some (.cells #[.bool p.empty, .slice ta m tc, .slice xa p.pair.1.length xc, .slice ya p.pair.2.length yc] 29)) := pair_old (World.grownBy_alloc _ _ _) HPB3.out
        have HK4 : Hid (PartS ((w2.setCell ⟨wr.heap.size, 2, none⟩ (.slice za st.other.length zc)).alloc (.cells #[.int .i64 st.bit, .bool st.right, .slice za st.other.length zc] 71)) (.slice xa p.pair.1.length xc) p.pair.1) := HK3.out.grown (World.grownBy_alloc _ _ _)
        have HV4 : Hid (PartS ((w2.setCell ⟨wr.heap.size, 2, none⟩ (.slice za st.other.length zc)).alloc (.cells #[.int .i64 st.bit, .bool st.right, .slice za st.other.length zc] 71)) (.slice ya p.pair.2.length yc) p.pair.2) := HV3.out.grown (World.grownBy_alloc _ _ _)
        have HO4 : Hid (OwnS wc.heap.size ((w2.setCell ⟨wr.heap.size, 2, none⟩ (.slice za st.other.length zc)).alloc (.cells #[.int .i64 st.bit, .bool st.right, .slice za st.other.length zc] 71)) (.slice ta m tc) D) := HO3.out.alloc _
        have HP4 : Hid (PartS ((w2.setCell ⟨wr.heap.size, 2, none⟩ (.slice za st.other.length zc)).alloc (.cells #[.int .i64 st.bit, .bool st.right, .slice za st.other.length zc] 71)) (.slice za st.other.length zc) st.other) := HP3.out.grown (World.grownBy_alloc _ _ _)
        have hgr4 : W1.grownBy ((w2.setCell ⟨wr.heap.size, 2, none⟩ (.slice za st.other.length zc)).alloc (.cells #[.int .i64 st.bit, .bool st.right, .slice za st.other.length zc] 71)) none := grown_alloc (grown_trans hgr hgr3) _
        have hsz4 := hgr4.size
        have hsz5 : wc.heap.size ≤ ((w2.setCell ⟨wr.heap.size, 2, none⟩ (.slice za st.other.length zc)).alloc (.cells #[.int .i64 st.bit, .bool st.right, .slice za st.other.length zc] 71)).heap.size := by rw [World.size_alloc]; omega
        have HSZ4 : Hid (wc.heap.size ≤ ((w2.setCell ⟨wr.heap.size, 2, none⟩ (.slice za st.other.length zc)).alloc (.cells #[.int .i64 st.bit, .bool st.right, .slice za st.other.length zc] 71)).heap.size) := hsz5
        clear hq2 hq3 hpb2 hpb3 hNB HO HK1 HV1 HB OM y0 y1 y2 hsz4 hsz5
        go_wp2_with (at_builtin; refine wpList_append_step rfl (.tmp 29) (.tmp 31) rfl wc.heap.size (.slice ta m tc) D rfl HO4.out (.slice za st.other.length zc) st HP4.out w2.heap.size (step_news HN.out) rfl (by omega) HSZ4.out ?_; intro v5 w5 ho5 hg5; obtain ⟨va5, vc5, rfl⟩ := ho5.shape; have hpb5 := row_block hg5 HPB4.out (HO4.out.notRow (.inl hpbc)); obtain ⟨⟨l0, l1, l2, l3⟩, n0, n1, n2, n3, _⟩ := quad_room (grown_refl w5 none) hpb5; rw [show (D ++ [st]).length = m + 1 by simp [hlm]] at ho5)
        have hNP : NotB w5 pb := notB_of (xs := [.slice ta m tc, .slice xa p.pair.1.length xc, .slice ya p.pair.2.length yc]) hpb5 proofT (fun q => by simp)
        have hgw5 : W1.grownBy w5 none := grown_ownS hgr4 HO4.out (by omega) hg5
        have hsz6 := hg5.size
        have hz4 := HSZ4.out
        have hrow := HO4.out.row
        go_roundw
        case rel =>
          exact ⟨m + 1, va5, vc5, by omega, by go_num, quad_second hpb5 _, by rw [HT.out]; exact ho5.set hNP hpbc _ _, (HK4.out.kept hg5 hrow).set hNP _ _, (HV4.out.kept hg5 hrow).set hNP _ _, grown_setNew hgw5 _ hpbl _ _, by simp [World.setCell]; omega⟩
        case measure => simp [intOf]; omega
      · obtain rfl : m = S.length := by omega
        rw [List.take_length] at hown
        have hR := pair_old hgr bR.out
        obtain ⟨⟨q0, q1, q2, q3⟩, f0, f1, f2, f3, _⟩ := quad_room (grown_refl wr none) hR
        obtain ⟨hq, g0, g1, g2, g3⟩ := quad_set hR (.bool p.empty) (.slice ta S.length tc) (.slice xa p.pair.1.length xc) (.slice ya p.pair.2.length yc)
        obtain ⟨⟨m0, m1, m2, m3⟩, _⟩ := quad_room (grown_refl _ none) hq
        have hNR : NotB wr (w.heap.size + 1) := notB_of (xs := [.slice none 0 0, .slice none 0 0, .slice none 0 0]) hR proofT (fun q => by simp)
        have PN : Hid (ProofIs ((((wr.setCell ⟨w.heap.size + 1, 0, none⟩ (.bool p.empty)).setCell ⟨w.heap.size + 1, 1, none⟩ (.slice ta S.length tc)).setCell ⟨w.heap.size + 1, 2, none⟩ (.slice xa p.pair.1.length xc)).setCell ⟨w.heap.size + 1, 3, none⟩ (.slice ya p.pair.2.length yc)) (.agg #[.bool p.empty, .slice ta S.length tc, .slice xa p.pair.1.length xc, .slice ya p.pair.2.length yc]) ⟨p.empty, S, p.pair⟩) := ⟨_, _, _, rfl, (hown.quad hNR (by omega)).list, (hk1.quad hNR).1, (hv1.quad hNR).1⟩
        have hgq := grown_quad (grown_trans hgW hgr) (w.heap.size + 1) (by omega) (.bool p.empty) (.slice ta S.length tc) (.slice xa p.pair.1.length xc) (.slice ya p.pair.2.length yc)
        clear hNR hk1 hv1 hown hR hq
        go_wp2
        refine bodyPost_ret (v := .agg #[.bool p.empty, .slice ta S.length tc, .slice xa p.pair.1.length xc, .slice ya p.pair.2.length yc]) (by simp [results, Tryd.results13, go_sem, m0, m1, m2, m3]) rfl ?_
        exact ⟨_, rfl, by rw [HEP.out]; exact PN.out, hgq⟩
end Go.Proofs.YtkkcjnhfbblgiabDoor
