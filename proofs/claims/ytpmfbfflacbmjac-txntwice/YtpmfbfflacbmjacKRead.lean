/-
  The walk of canopykeep.Read: a read out of a place in raw bytes.
-/
import Derived.Test.YtpmfbfflacbmjacKWrite
import Derived.Test.YtpmfbfflacbmjacPart2
namespace Go.Proofs.Ytpmfbfflacbmjac
open Go.RowKit
attribute [local go_sem ↓] Go.wp_at_zero Go.wp_at_succ

theorem read_typeK : (40 : TypeId) ≠ 5 := by decide
set_option maxRecDepth 100000 in
set_option maxHeartbeats 2000000 in
theorem kread_any (w : World) (v : Value) (p : Plc) (hv : PlaceIs w v p) (hp : PlcFits p) :
    Calls Try.prog 16 #[v] w fun e w' => ∃ vn vk vv, e = .returned (.agg #[vn, vk, .bool p.gone, vv]) ∧ Own w.heap.size w' vn (readF p).name ∧ Own w.heap.size w' vk (readF p).key ∧ Own w.heap.size w' vv (readF p).last ∧ w.grownBy w' none := by
  obtain ⟨pn, pk, pv, rfl, s1, s2, s3⟩ := hv
  obtain ⟨b1, b2, b3⟩ := hp
  obtain ⟨W0, hW0⟩ : ∃ W0 : World, W0 = (w.alloc (.cells #[pn, pk, pv, .bool p.gone] 58)).alloc (.cells #[.slice none 0 0, .slice none 0 0, .bool false, .slice none 0 0] 40) := ⟨_, rfl⟩
  have hgW : w.grownBy W0 none := by rw [hW0]; exact grown_alloc (World.grownBy_alloc _ _ _) _
  have HW0 : Hid (W0 = (w.alloc (.cells #[pn, pk, pv, .bool p.gone] 58)).alloc (.cells #[.slice none 0 0, .slice none 0 0, .bool false, .slice none 0 0] 40)) := hW0
  have CX : Hid (W0.heap[w.heap.size]? = some (.cells #[pn, pk, pv, .bool p.gone] 58)) := by
    have := (World.grownBy_alloc (w.alloc (.cells #[pn, pk, pv, .bool p.gone] 58)) (.cells #[.slice none 0 0, .slice none 0 0, .bool false, .slice none 0 0] 40) none).block w.heap.size (by simp) (by simp)
    rw [heap_alloc_new] at this
    rw [hW0]; exact this
  have CR : Hid (W0.heap[w.heap.size + 1]? = some (.cells #[.slice none 0 0, .slice none 0 0, .bool false, .slice none 0 0] 40)) := by
    have := heap_alloc_new (w.alloc (.cells #[pn, pk, pv, .bool p.gone] 58)) (.cells #[.slice none 0 0, .slice none 0 0, .bool false, .slice none 0 0] 40)
    rw [World.size_alloc] at this
    rw [hW0]; exact this
  have hsz0 : w.heap.size + 2 ≤ W0.heap.size := by rw [hW0]; simp
  have NM : Hid (∀ w', w.grownBy w' none → Calls Try.prog 37 #[pn] w' fun e w'' => ∃ v', e = .returned v' ∧ Own w'.heap.size w'' v' (readF p).name ∧ w'.grownBy w'' none) := fun w' hg => name_any w' pn p.name (s1.grown hg) (by unfold maxLen; omega)
  have KY : Hid (∀ w', w.grownBy w' none → Calls Try.prog 38 #[pk] w' fun e w'' => ∃ v', e = .returned v' ∧ Own w'.heap.size w'' v' (readF p).key ∧ w'.grownBy w'' none) := fun w' hg => keyO_any w' pk p.key (s2.grown hg) (by unfold maxLen; omega)
  have SO : Hid (∀ w', w.grownBy w' none → Calls Try.prog 38 #[pv] w' fun e w'' => ∃ v', e = .returned v' ∧ Own w'.heap.size w'' v' (keyF p.value) ∧ w'.grownBy w'' none) := fun w' hg => keyO_any w' pv p.value (s3.grown hg) (by unfold maxLen; omega)
  have HV : Hid ((readF p).last = if p.gone = true then keyF p.value else []) := rfl
  obtain ⟨na, nc, rfl⟩ := (show ∃ a c, pn = .slice a p.name.length c by obtain ⟨a, c, e, _⟩ := s1; exact ⟨a, c, e⟩)
  obtain ⟨ka, kc, rfl⟩ := (show ∃ a c, pk = .slice a p.key.length c by obtain ⟨a, c, e, _⟩ := s2; exact ⟨a, c, e⟩)
  obtain ⟨va, vc, rfl⟩ := (show ∃ a c, pv = .slice a p.value.length c by obtain ⟨a, c, e, _⟩ := s3; exact ⟨a, c, e⟩)
  generalize (readF p).name = N at *
  generalize (readF p).key = K at *
  generalize (readF p).last = V at *
  generalize keyF p.value = V2 at *
  generalize p.gone = G at *
  generalize p.name.length = ln at *
  generalize p.key.length = lk at *
  generalize p.value.length = lv at *
  clear s1 s2 s3 hW0
  obtain ⟨⟨d1, d2, _, d4⟩, _, _, _, _, _⟩ := quad_room (grown_refl W0 none) CX.out
  go_enter Try.func16, Try.ntmps16
  go_upto_region 1 with fail
  rw [← HW0.out]
  go_cut [3] (fun sl wx => ∃ (pb : Nat) (xa : Option Addr) (xc : Nat) (ya : Option Addr) (yc : Nat), sl = .pointer (some ⟨pb, 0, none⟩) ∧ W0.heap.size ≤ pb ∧ wx.heap[pb]? = some (.cells #[.slice xa N.length xc, .slice ya K.length yc, .bool G, .slice none 0 0] 40) ∧ Own W0.heap.size wx (.slice xa N.length xc) N ∧ Own W0.heap.size wx (.slice ya K.length yc) K ∧ W0.grownBy wx none)
  case first =>
    have hgd := grown_drew (grown_refl W0 none)
    obtain ⟨WA, hWA⟩ : ∃ WA : World, WA = W0.alloc (.cells #[.slice none 0 0, .slice none 0 0, .bool false, .slice none 0 0] 40) := ⟨_, rfl⟩
    have hgA : W0.grownBy WA.drew none := by rw [hWA]; exact grown_drew (World.grownBy_alloc _ _ _)
    have HPA : Hid (WA.drew.heap[W0.heap.size]? = some (.cells #[.slice none 0 0, .slice none 0 0, .bool false, .slice none 0 0] 40)) := by rw [hWA]; exact heap_alloc_new W0 _
    have e1 := hgd.cell d1 (by simp)
    have e2 := hgd.cell d2 (by simp)
    have e3 := hgd.cell d4 (by simp)
    have e4 := hgA.cell d1 (by simp)
    have e5 := hgA.cell d2 (by simp)
    have e6 := hgA.cell d4 (by simp)
    have HWA : Hid (WA = W0.alloc (.cells #[.slice none 0 0, .slice none 0 0, .bool false, .slice none 0 0] 40)) := hWA
    clear hWA
    go_region_held3 (fun w' => w'.cell? ⟨w.heap.size, 0, none⟩ = some (.slice na ln nc) ∧ w'.cell? ⟨w.heap.size, 1, none⟩ = some (.slice ka lk kc) ∧ w'.cell? ⟨w.heap.size, 3, none⟩ = some (.bool G))
      (first | with_reducible exact ⟨e1, e2, e3⟩ | (rw [← HWA.out]; with_reducible exact ⟨e4, e5, e6⟩) | with_reducible exact ⟨f4, f5, f6⟩ | with_reducible exact ⟨f1, f2, f3⟩ | (rw [← HWB.out]; with_reducible exact ⟨k1, k2, k3⟩) | with_reducible exact ⟨(World.grownBy_alloc _ _ none).cell f4 (by simp), (World.grownBy_alloc _ _ none).cell f5 (by simp), (World.grownBy_alloc _ _ none).cell f6 (by simp)⟩ | (refine ⟨?_, ?_, ?_⟩ <;> (rw [World.cell?_setCell_other _ _ _ _ (by intro e; injection e with e1 e2; omega), World.cell?_setCell_other _ _ _ _ (by intro e; injection e with e1 e2; omega), World.cell?_setCell_other _ _ _ _ (by intro e; injection e with e1 e2; omega), World.cell?_setCell_other _ _ _ _ (by intro e; injection e with e1 e2; omega)]; first | with_reducible assumption | with_reducible exact (World.grownBy_alloc _ _ none).cell f4 (by simp) | with_reducible exact (World.grownBy_alloc _ _ none).cell f5 (by simp) | with_reducible exact (World.grownBy_alloc _ _ none).cell f6 (by simp))))
      (first
        | (go_at_call 37; rw [← HWA.out]; with_reducible refine (NM.out _ (grown_trans hgW hgA)).mono ?_
           rintro e w2 ⟨v2, rfl, ok, hg2⟩; obtain ⟨xa, xc, rfl⟩ := ok.shape
           have hgk : W0.grownBy w2 none := grown_trans hgA hg2
           have f1 := hgk.cell d1 (by simp)
           have f2 := hgk.cell d2 (by simp)
           have f3 := hgk.cell d4 (by simp)
           have z2 := hgk.size
           have tA : Hid (w2.heap[W0.heap.size]? = some (.cells #[.slice none 0 0, .slice none 0 0, .bool false, .slice none 0 0] 40)) := (quad_room hg2 HPA.out).2.2.2.2.2)
        | (go_at_call 37; with_reducible refine (NM.out _ (grown_trans hgW hgd)).mono ?_
           rintro e w2 ⟨v2, rfl, ok, hg2⟩; obtain ⟨xa, xc, rfl⟩ := ok.shape
           have hgk : W0.grownBy w2 none := grown_trans hgd hg2
           have f1 := hgk.cell d1 (by simp)
           have f2 := hgk.cell d2 (by simp)
           have f3 := hgk.cell d4 (by simp)
           have z2 := hgk.size
           obtain ⟨WB, HWB, hgB, HPB⟩ := alloc_named w2 (.cells #[.slice none 0 0, .slice none 0 0, .bool false, .slice none 0 0] 40)
           have k1 := hgB.cell f1 (by simp)
           have k2 := hgB.cell f2 (by simp)
           have k3 := hgB.cell f3 (by simp))
        | (go_at_call 38; rw [← HWB.out]; with_reducible refine (KY.out _ (grown_trans hgW (grown_trans hgk hgB))).mono ?_
           rintro e w3 ⟨v3, rfl, ov, hg3⟩; obtain ⟨ya, yc, rfl⟩ := ov.shape
           have hg23 : w2.grownBy w3 none := grown_trans hgB hg3
           have hgs : W0.grownBy w3 none := grown_trans hgk hg23
           have f4 := hgs.cell d1 (by simp)
           have f5 := hgs.cell d2 (by simp)
           have f6 := hgs.cell d4 (by simp)
           have z3 := hgs.size
           have z4 := hgB.size
           refine quad_elim hg3 HPB.out ?_; intro hpb0 cA cB cC cD fA fB fC fD; have HQB : Hid (w3.heap[w2.heap.size]? = some (.cells #[.slice none 0 0, .slice none 0 0, .bool false, .slice none 0 0] 40)) := hpb0; clear hpb0)
        | (go_at_call 38; with_reducible refine (KY.out _ (grown_trans hgW hgk)).mono ?_
           rintro e w3 ⟨v3, rfl, ov, hg3⟩; obtain ⟨ya, yc, rfl⟩ := ov.shape
           have hg23 : w2.grownBy w3 none := hg3
           have hgs : W0.grownBy w3 none := grown_trans hgk hg3
           have f4 := hgs.cell d1 (by simp)
           have f5 := hgs.cell d2 (by simp)
           have f6 := hgs.cell d4 (by simp)
           have z3 := hgs.size
           first
             | (refine quad_elim hg3 tA.out ?_; intro hpb0 cA cB cC cD fA fB fC fD; have HQA : Hid (w3.heap[W0.heap.size]? = some (.cells #[.slice none 0 0, .slice none 0 0, .bool false, .slice none 0 0] 40)) := hpb0; clear hpb0)
             | skip))
    all_goals (go_wp2_with fail; go_meet; case rel =>
      have okm : Own W0.heap.size w3 (.slice xa N.length xc) N := own_mono (ok.grownNone hg23) (by first | exact hgd.size | exact hgA.size)
      have ovm : Own W0.heap.size w3 (.slice ya K.length yc) K := own_mono ov (by omega)
      first
        | exact ⟨W0.heap.size, xa, xc, ya, yc, rfl, Nat.le_refl _, (quad_set HQA.out _ _ _ _).1, okm.setQuad HQA.out read_typeK _ _ _ _, ovm.setQuad HQA.out read_typeK _ _ _ _, grown_quad hgs _ (Nat.le_refl _) _ _ _ _⟩
        | exact ⟨w2.heap.size, xa, xc, ya, yc, rfl, z2, (quad_set HQB.out _ _ _ _).1, okm.setQuad HQB.out read_typeK _ _ _ _, ovm.setQuad HQB.out read_typeK _ _ _ _, grown_quad hgs _ z2 _ _ _ _⟩
        | exact ⟨w3.heap.size, xa, xc, ya, yc, rfl, z3, heap_alloc_new w3 _, okm.alloc _, ovm.alloc _, grown_alloc hgs _⟩)
  case rest =>
    obtain ⟨pb, xa, xc, ya, yc, rfl, hpbl, hpb, oN, oK, hgx⟩ := hcut
    have HPB : Hid (wc.heap[pb]? = some (.cells #[.slice xa N.length xc, .slice ya K.length yc, .bool G, .slice none 0 0] 40)) := hpb
    have ON : Hid (Own W0.heap.size wc (.slice xa N.length xc) N) := oN
    have OK1 : Hid (Own W0.heap.size wc (.slice ya K.length yc) K) := oK
    obtain ⟨⟨_, _, g3, g4⟩, _, _, _, _, _⟩ := quad_room hgx CX.out
    have hgw := grown_trans hgW hgx
    have hlt : w.heap.size + 1 < pb := by omega
    clear hpb oN oK d1 d2 d4 NM KY
    cases G with
    | true =>
      have HVN : Hid (V = V2) := by show _ = _; rw [HV.out, if_pos rfl]
      have SV : Hid (Calls Try.prog 38 #[.slice va lv vc] wc fun e w'' => ∃ v', e = .returned v' ∧ Own wc.heap.size w'' v' V2 ∧ wc.grownBy w'' none) := SO.out wc hgw
      clear HV SO
      go_wp2_with fail
      refine SV.out.mono ?_
      rintro e w5 ⟨v5, rfl, o5, hg5⟩
      obtain ⟨za, zc, rfl⟩ := o5.shape
      have hgx5 := grown_trans hgx hg5
      obtain ⟨⟨p1, p2, p3, p4⟩, q1, q2, q3, q4, hpb5⟩ := quad_room hg5 HPB.out
      have hpb6 := quad_last hpb5 (.slice za V2.length zc)
      obtain ⟨W6, hW6⟩ : ∃ W6 : World, W6 = w5.setCell ⟨pb, 3, none⟩ (.slice za V2.length zc) := ⟨_, rfl⟩
      have HW6 : Hid (W6 = w5.setCell ⟨pb, 3, none⟩ (.slice za V2.length zc)) := hW6
      have o6 : Hid (Own wc.heap.size W6 (.slice za V2.length zc) V2) := by rw [hW6]; exact o5.setBlk hpb5 read_typeK _ _
      have ON6 : Hid (Own W0.heap.size W6 (.slice xa N.length xc) N) := by rw [hW6]; exact (ON.out.grownNone hg5).setBlk hpb5 read_typeK _ _
      have OK6 : Hid (Own W0.heap.size W6 (.slice ya K.length yc) K) := by rw [hW6]; exact (OK1.out.grownNone hg5).setBlk hpb5 read_typeK _ _
      have hgx6 : W0.grownBy W6 none := by rw [hW6]; exact grown_setNew hgx5 pb hpbl _ _
      rw [← hW6] at hpb6
      obtain ⟨⟨a1, a2, a3, a4⟩, _, _, _, _, _⟩ := quad_room (grown_refl W6 none) hpb6
      obtain ⟨⟨r1, r2, r3, r4⟩, t1, t2, t3, t4, hrb⟩ := quad_room hgx6 CR.out
      obtain ⟨_, y1, y2, y3, y4⟩ := quad_set hrb (.slice xa N.length xc) (.slice ya K.length yc) (.bool true) (.slice za V2.length zc)
      have ON2 : Hid (Own W0.heap.size ((((W6.setCell ⟨w.heap.size + 1, 0, none⟩ (.slice xa N.length xc)).setCell ⟨w.heap.size + 1, 1, none⟩ (.slice ya K.length yc)).setCell ⟨w.heap.size + 1, 2, none⟩ (.bool true)).setCell ⟨w.heap.size + 1, 3, none⟩ (.slice za V2.length zc)) (.slice xa N.length xc) N) := ON6.out.setQuad hrb read_typeK _ _ _ _
      have OK2 : Hid (Own W0.heap.size ((((W6.setCell ⟨w.heap.size + 1, 0, none⟩ (.slice xa N.length xc)).setCell ⟨w.heap.size + 1, 1, none⟩ (.slice ya K.length yc)).setCell ⟨w.heap.size + 1, 2, none⟩ (.bool true)).setCell ⟨w.heap.size + 1, 3, none⟩ (.slice za V2.length zc)) (.slice ya K.length yc) K) := OK6.out.setQuad hrb read_typeK _ _ _ _
      have OV2 : Hid (Own wc.heap.size ((((W6.setCell ⟨w.heap.size + 1, 0, none⟩ (.slice xa N.length xc)).setCell ⟨w.heap.size + 1, 1, none⟩ (.slice ya K.length yc)).setCell ⟨w.heap.size + 1, 2, none⟩ (.bool true)).setCell ⟨w.heap.size + 1, 3, none⟩ (.slice za V2.length zc)) (.slice za V2.length zc) V2) := o6.out.setQuad hrb read_typeK _ _ _ _
      have hgf := grown_quad (grown_trans hgW hgx6) (w.heap.size + 1) (by omega) (.slice xa N.length xc) (.slice ya K.length yc) (.bool true) (.slice za V2.length zc)
      have hszc := hgw.size
      clear hW6 hrb o5 hpb5
      go_upto_region 4 with fail
      rw [← HW6.out]
      clear p1 p2 p3 p4
      go_wp2
      refine bodyPost_ret (v := .agg #[.slice xa N.length xc, .slice ya K.length yc, .bool true, .slice za V2.length zc]) (by simp [results, Try.results16, go_sem, y1, y2, y3, y4]) rfl ?_
      exact ⟨_, _, _, rfl, own_mono ON2.out (by omega), own_mono OK2.out (by omega), by rw [HVN.out]; exact own_mono OV2.out (by omega), hgf⟩
    | false =>
      obtain ⟨⟨p1, p2, p3, p4⟩, q1, q2, q3, q4, _⟩ := quad_room (grown_refl wc none) HPB.out
      obtain ⟨⟨r1, r2, r3, r4⟩, t1, t2, t3, t4, hrb⟩ := quad_room hgx CR.out
      obtain ⟨_, y1, y2, y3, y4⟩ := quad_set hrb (.slice xa N.length xc) (.slice ya K.length yc) (.bool false) (.slice none 0 0)
      have HVN : Hid (V = []) := by show _ = _; rw [HV.out, if_neg (by decide)]
      have ON2 : Hid (Own W0.heap.size ((((wc.setCell ⟨w.heap.size + 1, 0, none⟩ (.slice xa N.length xc)).setCell ⟨w.heap.size + 1, 1, none⟩ (.slice ya K.length yc)).setCell ⟨w.heap.size + 1, 2, none⟩ (.bool false)).setCell ⟨w.heap.size + 1, 3, none⟩ (.slice none 0 0)) (.slice xa N.length xc) N) := ON.out.setQuad hrb read_typeK _ _ _ _
      have OK2 : Hid (Own W0.heap.size ((((wc.setCell ⟨w.heap.size + 1, 0, none⟩ (.slice xa N.length xc)).setCell ⟨w.heap.size + 1, 1, none⟩ (.slice ya K.length yc)).setCell ⟨w.heap.size + 1, 2, none⟩ (.bool false)).setCell ⟨w.heap.size + 1, 3, none⟩ (.slice none 0 0)) (.slice ya K.length yc) K) := OK1.out.setQuad hrb read_typeK _ _ _ _
      have hgf := grown_quad hgw (w.heap.size + 1) (by omega) (.slice xa N.length xc) (.slice ya K.length yc) (.bool false) (.slice none 0 0)
      clear HV hrb
      go_wp2
      refine bodyPost_ret (v := .agg #[.slice xa N.length xc, .slice ya K.length yc, .bool false, .slice none 0 0]) (by simp [results, Try.results16, go_sem, y1, y2, y3, y4]) rfl ?_
      exact ⟨_, _, _, rfl, own_mono ON2.out (by omega), own_mono OK2.out (by omega), by rw [HVN.out]; exact own_nil _ _, hgf⟩
end Go.Proofs.Ytpmfbfflacbmjac
