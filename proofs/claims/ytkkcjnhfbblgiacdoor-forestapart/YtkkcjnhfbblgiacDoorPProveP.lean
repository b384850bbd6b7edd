/-
  proof.Prove, as it landed, keeps P4.1.
-/
import Derived.Test.YtkkcjnhfbblgiacDoorPart15
import Derived.Test.YtkkcjnhfbblgiacDoorPart14
import Derived.Test.YtkkcjnhfbblgiacDoorCloneP
import Derived.Test.YtkkcjnhfbblgiacDoorPart2
import Derived.Test.YtkkcjnhfbblgiacDoorPart5
import Derived.Test.YtkkcjnhfbblgiacDoorPart4
namespace Go.Proofs.YtkkcjnhfbblgiacDoor
open Go.RowKit
set_option maxRecDepth 100000 in
set_option maxHeartbeats 2000000 in
theorem pprove_ok : PProveOK := by
  intro w v u l k hv hu hf ht
  obtain ⟨ua, uc, rfl⟩ := hu.shape
  obtain ⟨W1, hW1⟩ : ∃ W1 : World, W1 = w.alloc (.cells #[.bool false, .slice none 0 0, .slice none 0 0, .slice none 0 0] 38) := ⟨_, rfl⟩
  have hgW : w.grownBy W1 none := by rw [hW1]; exact World.grownBy_alloc _ _ _
  have HW1 : Hid (W1 = w.alloc (.cells #[.bool false, .slice none 0 0, .slice none 0 0, .slice none 0 0] 38)) := hW1
  have B1 : Hid (W1.heap[w.heap.size]? = some (.cells #[.bool false, .slice none 0 0, .slice none 0 0, .slice none 0 0] 38)) := by
    show _ = _
    rw [hW1]; exact heap_alloc_new w _
  have hsW : W1.heap.size = w.heap.size + 1 := by rw [hW1, World.size_alloc]
  have CL : Hid (Calls Tryd.prog 29 #[v] W1 fun e w' => e = .returned (.int .i64 (pairsFaultF l)) ∧ W1.grownBy w' none) := tcheck_ok W1 v l (hv.grown hgW) hf
  have CK : Hid (∀ w', Calls Tryd.prog 35 #[.slice ua k.length uc] w' fun e w'' => e = .returned (.int .i64 (keyFaultF k.length)) ∧ w'.grownBy w'' none) := fun w' => check_ok w' ua k.length uc
  obtain ⟨va, vc, rfl⟩ := hv.shape
  have bad : ∀ (w' : World), W1.grownBy w' none → ProofNew w.heap.size ((((w'.setCell ⟨w.heap.size, 0, none⟩ (.bool false)).setCell ⟨w.heap.size, 1, none⟩ (.slice none 0 0)).setCell ⟨w.heap.size, 2, none⟩ (.slice none 0 0)).setCell ⟨w.heap.size, 3, none⟩ (.slice none 0 0)) (.agg #[.bool false, .slice none 0 0, .slice none 0 0, .slice none 0 0]) noPrf := by
    intro w' hg
    refine ⟨w.heap.size, _, _, _, rfl, Nat.le_refl _, ?_, ownS_nil _ _, partS_nil _, partS_nil _⟩
    exact (grown_quad (grown_trans hgW hg) _ (Nat.le_refl _) _ _ _ _).size
  by_cases hz : pairsFaultF l = 0
  · by_cases hk : keyFaultF k.length = 0
    · have hT := (tree_iff l).1 hz
      have hk' := (keyFault_iff _).1 hk
      have hE : getE l k = 0 := getE_ok hT hk'
      rw [proveF, if_pos hE, hE, proveL]
      rw [hz] at CL
      rw [hk] at CK
      by_cases h0 : l.length = 0
      · rw [if_pos h0]
        rw [h0] at CL ⊢
        clear hz hk hT hk' hE hv hu ht bad hW1
        go_enter Tryd.func23, Tryd.ntmps23
        go_wp2_with fail
        rw [← HW1.out]
        refine CL.out.mono ?_
        rintro e w2 ⟨rfl, hg2⟩
        go_wp2_with fail
        refine (CK.out _).mono ?_
        rintro e w3 ⟨rfl, hg3⟩
        have hg13 := grown_trans hg2 hg3
        obtain ⟨⟨y0, y1, y2, y3⟩, f0, f1, f2, f3, BB⟩ := quad_room hg13 B1.out
        obtain ⟨q, q0, q1, q2, q3⟩ := quad_set BB (.bool true) (.slice none 0 0) (.slice none 0 0) (.slice none 0 0)
        obtain ⟨⟨r0, r1, r2, r3⟩, _⟩ := quad_room (grown_refl _ none) q
        go_wp2
        refine bodyPost_ret (v := .tuple #[.agg #[.bool true, .slice none 0 0, .slice none 0 0, .slice none 0 0], .int .i64 0]) (by simp [results, Tryd.results23, go_sem, r0, r1, r2, r3]) rfl ?_
        have hgq := grown_quad (grown_trans hgW hg13) _ (Nat.le_refl _) (.bool true) (.slice none 0 0) (.slice none 0 0) (.slice none 0 0)
        exact ⟨_, rfl, ⟨w.heap.size, _, _, _, rfl, Nat.le_refl _, hgq.size, ownS_nil _ _, partS_nil _, partS_nil _⟩, hgq⟩
      · rw [if_neg h0]
        have hroom := hT.room
        have SF : Hid (∀ (w' : World) (m : PL) (ma : Option Addr) (mc : Nat), w.grownBy w' none → PairsIs w (.slice ma m.length mc) m → Tree m → 2 ≤ m.length → Calls Tryd.prog 36 #[.slice ma m.length mc, .slice ua k.length uc] w' fun e w'' => ∃ x ra rc, e = .returned (.tuple #[.agg #[.int .i64 (stepOf m k).bit, .bool (stepOf m k).right, x], .slice ra (mine m k).length rc, .int .i64 0]) ∧ PartS w'' x (stepOf m k).other ∧ PairsIs w (.slice ra (mine m k).length rc) (mine m k) ∧ w'.grownBy w'' none) := by
          intro w' m ma mc hg hm hTm h2
          refine (stepFrom_any w' _ _ m k (hm.grown hg) (hu.grown hg) hTm h2 hk' (ht.grownNone hg)).mono ?_
          rintro e w'' ⟨x, ra, rn, rc, rfl, h1, h2', h3⟩
          have h4 := h2' w hm
          obtain ⟨_, _, e4⟩ := h4.shape
          have e5 := e4
          simp only [Value.slice.injEq] at e5
          obtain ⟨_, rfl, _⟩ := e5
          exact ⟨x, ra, rc, rfl, h1.partS (rootL_len _), h4, h3⟩
        have HMORE : Hid (∀ m : PL, Tree m → 2 ≤ m.length → (stepsL m k = stepOf m k :: stepsL (mine m k) k ∧ endL m k = endL (mine m k) k) ∧ (mine m k).length < m.length ∧ 0 < (mine m k).length ∧ Tree (mine m k)) := fun m hTm h2 => ⟨steps_more k hTm h2, mine_less hTm h2 k, mine_some hTm h2 k, side_tree hTm _ _⟩
        have HFEW : Hid (∀ m : PL, m.length < 2 → stepsL m k = [] ∧ endL m k = m.getD 0 ([], [])) := fun m h => steps_few m k h
        have HPAIR : Hid (∀ m : PL, Tree m → ∀ i, i < m.length → (m.getD i ([], [])).1.length ≤ 16 ∧ (m.getD i ([], [])).2.length ≤ 32) := by
          intro m hTm i hi
          have := hTm.pairs m[i] (List.getElem_mem hi)
          rw [show m[i] = m.getD i ([], []) by simp [hi]] at this
          exact ⟨this.1.2, this.2⟩
        have HV : Hid (PairsIs w (.slice va l.length vc) l) := hv
        have HT : Hid (Tree l) := hT
        have t0 : ((l.length : Int) == 0) = false := by rw [beq_eq_false_iff_ne]; omega
        clear hz hk hT hk' hE hu ht bad hW1 hv hf
        go_enter Tryd.func23, Tryd.ntmps23
        go_wp2_with fail
        rw [← HW1.out]
        refine CL.out.mono ?_
        rintro e w2 ⟨rfl, hg2⟩
        go_wp2_with fail
        refine (CK.out _).mono ?_
        rintro e w3 ⟨rfl, hg3⟩
        have hg13 := grown_trans hg2 hg3
        clear hg2 hg3
        go_wp2_with fail
        go_loopw [0, 8] (fun s0 s8 wr => ∃ (m : PL) (ma : Option Addr) (mc : Nat) (ss : List Stp) (sa : Option Addr) (sc : Nat), s0 = .slice ma m.length mc ∧ s8 = .slice sa ss.length sc ∧ PairsIs w (.slice ma m.length mc) m ∧ Tree m ∧ 0 < m.length ∧ OwnS W1.heap.size wr (.slice sa ss.length sc) ss ∧ ss ++ stepsL m k = stepsL l k ∧ endL m k = endL l k ∧ ss.length + m.length ≤ 60 ∧ W1.grownBy wr none) (fun s0 _ _ => lenOf s0)
        case atStart => exact ⟨l, va, vc, [], none, 0, rfl, rfl, HV.out, HT.out, by omega, ownS_nil _ _, rfl, rfl, by simpa using hroom, hg13⟩
        case round =>
          clear hg13 HV HT
          obtain ⟨m, ma, mc, ss, sa, sc, rfl, rfl, hm, hTm, hm0, hown, hst, hend, hlen, hgr⟩ := hrel
          have hgw := grown_trans hgW hgr
          by_cases h2 : 2 ≤ m.length
          · obtain ⟨⟨q1, q2⟩, q3, q4, q5⟩ := HMORE.out m hTm h2
            have ST : Hid ((ss ++ [stepOf m k]) ++ stepsL (mine m k) k = stepsL l k) := by
              show _ = _
              rw [← hst, q1]; simp
            have EN : Hid (endL (mine m k) k = endL l k) := by
              show _ = _
              rw [← hend, q2]
            have SM := SF.out wr m ma mc hgw hm hTm h2
            have HS : Hid (Calls Tryd.prog 36 #[.slice ma m.length mc, .slice ua k.length uc] wr fun e w'' => ∃ x ra rc, e = .returned (.tuple #[.agg #[.int .i64 (stepOf m k).bit, .bool (stepOf m k).right, x], .slice ra (mine m k).length rc, .int .i64 0]) ∧ PartS w'' x (stepOf m k).other ∧ PairsIs w (.slice ra (mine m k).length rc) (mine m k) ∧ wr.grownBy w'' none) := SM
            have HO : Hid (OwnS W1.heap.size wr (.slice sa ss.length sc) ss) := hown
            have HQ5 : Hid (Tree (mine m k)) := q5
            generalize mine m k = m2 at *
            generalize stepOf m k = s1 at *
            have t2 : (1 : Int) < (m.length : Int) := by omega
            have hsz1 := hgr.size
            clear SM q1 q2 q5 hst hend hown hm hTm SF HMORE HFEW HPAIR
            go_wp2_with fail
            refine HS.out.mono ?_
            rintro e w4 ⟨x, ra, rc, rfl, hx, hp, hg4⟩
            have hsz4 := hg4.size
            obtain ⟨xa, xc, rfl⟩ := hx.1.shape
            go_wp2_with (at_builtin; refine wpList_append_step rfl (.tmp 43) (.tmp 45) rfl W1.heap.size (.slice sa ss.length sc) ss rfl (((HO.out.grownNone hg4).alloc _).alloc _) (.slice xa s1.other.length xc) s1 ((hx.grown (World.grownBy_alloc _ _ _)).grown (World.grownBy_alloc _ _ _)) (w4.heap.size + 1) (step_news (by have := heap_alloc_new (w4.alloc (.cells #[.int .i64 s1.bit, .bool s1.right, .slice xa s1.other.length xc] 79)) (.cells #[.int .i64 s1.bit, .bool s1.right, .slice xa s1.other.length xc] 79); rw [World.size_alloc] at this; exact this)) rfl (by omega) (by simp; omega) ?_; intro v5 w5 ho5 hg5)
            have hgw5 : W1.grownBy w5 none := grown_ownS (grown_alloc (grown_alloc (grown_trans hgr hg4) _) _) (((HO.out.grownNone hg4).alloc _).alloc _) (Nat.le_refl _) hg5
            obtain ⟨va5, vc5, rfl⟩ := ho5.shape
            go_roundw
            case rel => exact ⟨m2, ra, rc, ss ++ [s1], va5, vc5, rfl, rfl, hp, HQ5.out, q4, ho5, ST.out, EN.out, by simp; omega, hgw5⟩
            case measure => simp [lenOf]; omega
          · have hm1 : m.length = 1 := by omega
            obtain ⟨q1, q2⟩ := HFEW.out m (by omega)
            rw [q1, List.append_nil] at hst
            have ES : Hid (stepsL l k = ss) := hst.symm
            have EE : Hid (endL l k = m.getD 0 ([], [])) := by
              show _ = _
              rw [← hend, q2]
            obtain ⟨b, o, rfl, hat⟩ := hm.at 0 (by omega)
            obtain ⟨vk, vv, c1, c2, s1, s2⟩ := hat.grown hgw
            rw [Nat.zero_mul, Nat.add_zero] at c1 c2
            obtain ⟨b1, b2⟩ := HPAIR.out m hTm 0 (by omega)
            generalize m.getD 0 ([], []) = P at *
            have CK1 : Hid (∀ w', wr.grownBy w' none → Calls Tryd.prog 37 #[vk] w' fun e w'' => ∃ v', e = .returned v' ∧ Own w'.heap.size w'' v' P.1 ∧ w'.grownBy w'' none) := fun w' hg' => clone_any w' vk P.1 (s1.grown hg') (by omega)
            have CV1 : Hid (∀ w', wr.grownBy w' none → Calls Tryd.prog 37 #[vv] w' fun e w'' => ∃ v', e = .returned v' ∧ Own w'.heap.size w'' v' P.2 ∧ w'.grownBy w'' none) := fun w' hg' => clone_any w' vv P.2 (s2.grown hg') (by omega)
            obtain ⟨ka, kc, rfl⟩ := s1.shape
            obtain ⟨na, nc, rfl⟩ := s2.shape
            have HO : Hid (OwnS W1.heap.size wr (.slice sa ss.length sc) ss) := hown
            rw [hm1]
            have hbw : b < wr.heap.size := cell_lt c1
            have i0 : (0 : Nat) < 1 := by omega
            have hsz1 := hgr.size
            clear hst hend hown hm hTm SF HMORE HFEW HPAIR hat s1 s2 q1 q2 hlen hm0 h2 hm1
            go_upto_region 15 with fail
            go_cut [12] from 48 (fun sl wx => ∃ (pb : Nat) (xa : Option Addr) (xc : Nat) (ya : Option Addr) (yc : Nat), sl = .pointer (some ⟨pb, 0, none⟩) ∧ wx.heap[pb]? = some (.cells #[.slice xa P.1.length xc, .slice ya P.2.length yc] 36) ∧ PartS wx (.slice xa P.1.length xc) P.1 ∧ PartS wx (.slice ya P.2.length yc) P.2 ∧ wr.grownBy wx none)
            case first =>
              have hgd := grown_drew (grown_refl wr none)
              have hga0 : wr.grownBy (wr.alloc (.cells #[.slice none 0 0, .slice none 0 0] 36)) none := grown_alloc (grown_refl wr none) _
              have hga : wr.grownBy (wr.alloc (.cells #[.slice none 0 0, .slice none 0 0] 36)).drew none := grown_drew hga0
              have e1 := hgd.cell c1 (by simp)
              have e2 := hgd.cell c2 (by simp)
              have e3 := hga.cell c1 (by simp)
              have e4 := hga.cell c2 (by simp)
              go_region_held3 (fun w' => w'.cell? ⟨b, o, none⟩ = some (.slice ka P.1.length kc) ∧ w'.cell? ⟨b, o + 1, none⟩ = some (.slice na P.2.length nc))
                (first | exact ⟨e1, e2⟩ | exact ⟨e3, e4⟩ | exact ⟨f1, f2⟩ | exact ⟨f3, f4⟩ | exact ⟨(World.grownBy_alloc _ _ none).cell f1 (by simp), (World.grownBy_alloc _ _ none).cell f2 (by simp)⟩ | exact ⟨(World.grownBy_alloc _ _ none).cell f3 (by simp), (World.grownBy_alloc _ _ none).cell f4 (by simp)⟩ | (refine ⟨?_, ?_⟩ <;> (rw [World.cell?_setCell_other _ _ _ _ (by intro e; injection e with e1 e2; omega), World.cell?_setCell_other _ _ _ _ (by intro e; injection e with e1 e2; omega)]; first | assumption | exact (World.grownBy_alloc _ _ none).cell f3 (by simp) | exact (World.grownBy_alloc _ _ none).cell f4 (by simp))))
                (first
                  | (go_at_call_of 37 (Value.slice ka P.1.length kc); refine (CK1.out _ ?_).mono ?_; first | exact hgd | exact hga
                     rintro e w2 ⟨v2, rfl, ok, hg2⟩; obtain ⟨xa, xc, rfl⟩ := ok.shape
                     have hgk : wr.grownBy w2 none := by first | exact grown_trans hgd hg2 | exact grown_trans hga hg2
                     have f1 := hgk.cell c1 (by simp)
                     have f2 := hgk.cell c2 (by simp)
                     have z2 := hgk.size)
                  | (go_at_call_of 37 (Value.slice na P.2.length nc); refine (CV1.out _ ?_).mono ?_; first | exact hgk | exact (grown_alloc hgk _)
                     rintro e w3 ⟨v3, rfl, ov, hg3⟩; obtain ⟨ya, yc, rfl⟩ := ov.shape
                     have hgs : wr.grownBy w3 none := by first | exact grown_trans hgk hg3 | exact grown_trans (grown_alloc hgk _) hg3
                     have f3 := hgs.cell c1 (by simp)
                     have f4 := hgs.cell c2 (by simp)
                     have z3 := hgs.size
                     first
                       | (refine pair_room_elim (b := wr.heap.size) (grown_trans hg2 hg3) (heap_alloc_new wr (.cells #[.slice none 0 0, .slice none 0 0] 36)) ?_; intro hpb0 cA cB fA fB; have HPB : Hid (w3.heap[wr.heap.size]? = some (.cells #[.slice none 0 0, .slice none 0 0] 36)) := hpb0; clear hpb0)
                       | (refine pair_room_elim (b := w2.heap.size) hg3 (heap_alloc_new w2 (.cells #[.slice none 0 0, .slice none 0 0] 36)) ?_; intro hpb0 cA cB fA fB; have HPB : Hid (w3.heap[w2.heap.size]? = some (.cells #[.slice none 0 0, .slice none 0 0] 36)) := hpb0; clear hpb0)
                       | skip))
              all_goals (go_wp2_with fail; go_meet; case rel =>
                first
                  | exact ⟨w3.heap.size, xa, xc, ya, yc, rfl, heap_alloc_new w3 _, ((ok.grownNone hg3).alloc _).partS, (ov.alloc _).partS, grown_alloc hgs _⟩
                  | exact ⟨wr.heap.size, xa, xc, ya, yc, rfl, (pair_stored (base := wr.heap.size) HPB.out (by omega) _ _).1, pairS_stored HPB.out (fun q => by simp) _ _ _ _ _ _ (ok.grownNone hg3).partS, pairS_stored HPB.out (fun q => by simp) _ _ _ _ _ _ ov.partS, (pair_stored (base := wr.heap.size) HPB.out (by omega) _ _).2.2 wr (Nat.le_refl _) hgs⟩
                  | exact ⟨w2.heap.size, xa, xc, ya, yc, rfl, (pair_stored (base := wr.heap.size) HPB.out (by omega) _ _).1, pairS_stored HPB.out (fun q => by simp) _ _ _ _ _ _ ((ok.alloc _).grownNone hg3).partS, pairS_stored HPB.out (fun q => by simp) _ _ _ _ _ _ ov.partS, (pair_stored (base := wr.heap.size) HPB.out (by omega) _ _).2.2 wr z2 hgs⟩)
            case rest =>
              obtain ⟨pb, xa, xc, ya, yc, rfl, hpb, hk1, hv1, hgx⟩ := hcut
              obtain ⟨d1, d2, _, _⟩ := two_cells hpb
              have hgx1 := grown_trans hgr hgx
              obtain ⟨⟨y0, y1, y2, y3⟩, f0, f1, f2, f3, BB⟩ := quad_room hgx1 B1.out
              obtain ⟨q, q0, q1, q2, q3⟩ := quad_set BB (.bool false) (.slice sa ss.length sc) (.slice xa P.1.length xc) (.slice ya P.2.length yc)
              obtain ⟨⟨r0, r1, r2, r3⟩, _⟩ := quad_room (grown_refl _ none) q
              have hgq := grown_quad (grown_trans hgW hgx1) w.heap.size (Nat.le_refl _) (.bool false) (.slice sa ss.length sc) (.slice xa P.1.length xc) (.slice ya P.2.length yc)
              have hNB : NotB wc w.heap.size := notB_of (xs := [.slice none 0 0, .slice none 0 0, .slice none 0 0]) BB (by decide) (fun q => by simp)
              have hsq : W1.heap.size ≤ ((((wc.setCell ⟨w.heap.size, 0, none⟩ (.bool false)).setCell ⟨w.heap.size, 1, none⟩ (.slice sa ss.length sc)).setCell ⟨w.heap.size, 2, none⟩ (.slice xa P.1.length xc)).setCell ⟨w.heap.size, 3, none⟩ (.slice ya P.2.length yc)).heap.size := by
                have h1 := hgx1.size
                have h2 := (grown_set (grown_set (grown_set (grown_set (grown_refl wc (some w.heap.size)) 0 (.bool false)) 1 (.slice sa ss.length sc)) 2 (.slice xa P.1.length xc)) 3 (.slice ya P.2.length yc)).size
                omega
              have PN : Hid (ProofNew w.heap.size ((((wc.setCell ⟨w.heap.size, 0, none⟩ (.bool false)).setCell ⟨w.heap.size, 1, none⟩ (.slice sa ss.length sc)).setCell ⟨w.heap.size, 2, none⟩ (.slice xa P.1.length xc)).setCell ⟨w.heap.size, 3, none⟩ (.slice ya P.2.length yc)) (.agg #[.bool false, .slice sa ss.length sc, .slice xa P.1.length xc, .slice ya P.2.length yc]) ⟨false, ss, P⟩) :=
                ⟨W1.heap.size, _, _, _, rfl, by omega, hsq, (HO.out.grownNone hgx).quad hNB (by omega), hk1.quad hNB, hv1.quad hNB⟩
              clear hNB hsq BB hk1 hv1 HO
              go_wp2
              refine bodyPost_ret (v := .tuple #[.agg #[.bool false, .slice sa ss.length sc, .slice xa P.1.length xc, .slice ya P.2.length yc], .int .i64 0]) (by simp [results, Tryd.results23, go_sem, r0, r1, r2, r3]) rfl ?_
              exact ⟨_, rfl, by rw [ES.out, EE.out]; exact PN.out, hgq⟩
    · have hE : getE l k = keyFaultF k.length := by rw [getE, if_pos hz]
      rw [proveF, if_neg (by rw [hE]; exact hk), hE]
      rw [hz] at CL
      generalize keyFaultF k.length = z at *
      have hz' : (z != 0) = true := by simpa using hk
      clear hv hu ht hW1 hE hz
      go_enter Tryd.func23, Tryd.ntmps23
      go_wp2_with fail
      rw [← HW1.out]
      refine CL.out.mono ?_
      rintro e w2 ⟨rfl, hg2⟩
      go_wp2_with fail
      refine (CK.out _).mono ?_
      rintro e w3 ⟨rfl, hg3⟩
      have hg13 := grown_trans hg2 hg3
      obtain ⟨⟨y0, y1, y2, y3⟩, f0, f1, f2, f3, BB⟩ := quad_room hg13 B1.out
      obtain ⟨q, q0, q1, q2, q3⟩ := quad_set BB (.bool false) (.slice none 0 0) (.slice none 0 0) (.slice none 0 0)
      obtain ⟨⟨r0, r1, r2, r3⟩, _⟩ := quad_room (grown_refl _ none) q
      go_wp2
      refine bodyPost_ret (v := .tuple #[.agg #[.bool false, .slice none 0 0, .slice none 0 0, .slice none 0 0], .int .i64 z]) (by simp [results, Tryd.results23, go_sem, r0, r1, r2, r3]) rfl ?_
      exact ⟨_, rfl, bad _ hg13, grown_quad (grown_trans hgW hg13) _ (Nat.le_refl _) _ _ _ _⟩
  · have hE : getE l k = pairsFaultF l := by rw [getE, if_neg hz]
    rw [proveF, if_neg (by rw [hE]; exact hz), hE]
    generalize pairsFaultF l = z at *
    have hz' : (z != 0) = true := by simpa using hz
    clear hv hu ht hW1 hE
    go_enter Tryd.func23, Tryd.ntmps23
    go_wp2_with fail
    rw [← HW1.out]
    refine CL.out.mono ?_
    rintro e w2 ⟨rfl, hg2⟩
    obtain ⟨⟨y0, y1, y2, y3⟩, f0, f1, f2, f3, BB⟩ := quad_room hg2 B1.out
    obtain ⟨q, q0, q1, q2, q3⟩ := quad_set BB (.bool false) (.slice none 0 0) (.slice none 0 0) (.slice none 0 0)
    obtain ⟨⟨r0, r1, r2, r3⟩, _⟩ := quad_room (grown_refl _ none) q
    go_wp2
    refine bodyPost_ret (v := .tuple #[.agg #[.bool false, .slice none 0 0, .slice none 0 0, .slice none 0 0], .int .i64 z]) (by simp [results, Tryd.results23, go_sem, r0, r1, r2, r3]) rfl ?_
    exact ⟨_, rfl, bad _ hg2, grown_quad (grown_trans hgW hg2) _ (Nat.le_refl _) _ _ _ _⟩
end Go.Proofs.YtkkcjnhfbblgiacDoor
