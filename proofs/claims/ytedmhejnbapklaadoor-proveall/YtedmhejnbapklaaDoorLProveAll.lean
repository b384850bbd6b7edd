/-
  The walk of canopykeep.ProveAll, over what the code must keep.
-/
import Derived.Test.YtedmhejnbapklaaDoorLPK
import Derived.Test.YtedmhejnbapklaaDoorKSamePair
import Derived.Deep.RegionHeld3
namespace Go.Proofs.YtedmhejnbapklaaDoor
open Go.RowKit
/-- A slice of bytes stands where a finding's block is written. -/
theorem SliceIs.findingSet {w : World} {v : Value} {bs : List UInt8} (h : SliceIs w v bs) {nb : Nat} {b : Bool} {xa : Option Addr} {xn xc : Nat} {t : TypeId} (hb : w.heap[nb]? = some (.cells #[.bool b, .slice xa xn xc] t)) (u1 u2 : Value) :
    SliceIs ((w.setCell ⟨nb, 0, none⟩ u1).setCell ⟨nb, 1, none⟩ u2) v bs := by
  obtain ⟨a, cap, rfl, hc, h⟩ := h
  refine ⟨a, cap, rfl, hc, ?_⟩
  rcases h with h | ⟨c, o, rfl, h⟩
  · exact .inl h
  · refine .inr ⟨c, o, rfl, fun i hi => ?_⟩
    have hx := h i hi
    have hne : c ≠ nb := by
      rintro rfl
      match hj : o + i with
      | 0 => rw [hj] at hx; simp [World.cell?, hb] at hx
      | 1 => rw [hj] at hx; simp [World.cell?, hb] at hx
      | n + 2 => rw [hj] at hx; simp [World.cell?, hb] at hx
    rw [World.cell?_setCell_other _ _ _ _ (fun e => hne (congrArg Addr.block e).symm), World.cell?_setCell_other _ _ _ _ (fun e => hne (congrArg Addr.block e).symm)]
    exact hx
theorem cell_duo {w : World} {b c i : Nat} {v : Value} (h : w.cell? ⟨b, i, none⟩ = some v) (hne : b ≠ c) {x y : Value} :
    ((w.setCell ⟨c, 0, none⟩ x).setCell ⟨c, 1, none⟩ y).cell? ⟨b, i, none⟩ = some v := by
  rw [World.cell?_setCell_other _ _ _ _ (fun e => hne (congrArg Addr.block e).symm), World.cell?_setCell_other _ _ _ _ (fun e => hne (congrArg Addr.block e).symm)]
  exact h
/-- A proof of a key that is there: it ends at its pair, and has fewer steps than there are pairs. -/
theorem prove_there {l : PL} (hT : Tree l) (i : Nat) (hi : i < l.length) :
    (proveL l (l.getD i ([], [])).1).empty = false ∧ (proveL l (l.getD i ([], [])).1).pair = l.getD i ([], []) ∧ (proveL l (l.getD i ([], [])).1).steps.length < l.length ∧ getF l (l.getD i ([], [])).1 = some (l.getD i ([], [])).2 ∧ (1 ≤ (l.getD i ([], [])).1.length ∧ (l.getD i ([], [])).1.length ≤ 16) := by
  have hmem : l.getD i ([], []) ∈ l := by
    rw [show l.getD i ([], []) = l[i] by simp [hi]]; exact List.getElem_mem hi
  have h0 : ¬ l.length = 0 := by omega
  refine ⟨?_, ?_, ?_, get_mem hT _ hmem, (hT.pairs _ hmem).1⟩
  · rw [proveL, if_neg h0]
  · rw [proveL, if_neg h0]; exact end_there _ hT (by omega) _ hmem rfl
  · rw [proveL, if_neg h0]; exact steps_len _ hT (by omega)
set_option maxRecDepth 100000 in
set_option maxHeartbeats 4000000 in
theorem proveAll_walk (hM : KMakeOK) (hR : TRootOK) (hP : PProveOK) (hV : PVerifyOK) (w : World) (v : Value) (l : PL) (hv : PairsIs w v l) (hl : Fits l) (ht : Tabs w) :
    Calls Tryd.prog 6 #[v] w fun e w' => e = .returned (.bool true) ∧ w.grownBy w' none := by
  have hT := mkT_tree l 10 (by omega)
  have HM : Hid (Calls Tryd.prog 18 #[v, .int .i64 10] w fun e w' => ∃ v', e = .returned v' ∧ OwnP w.heap.size w' v' (mkT (l.take 10)) ∧ w.grownBy w' none) := hM w v l 10 hv hl (by omega)
  generalize mkT (l.take 10) = PS at *
  have HR : Hid (∀ w' v', w.grownBy w' none → PairsIs w' v' PS → Calls Tryd.prog 20 #[v'] w' fun e w'' => ∃ xa xc, e = .returned (.tuple #[.slice xa 32 xc, .int .i64 0]) ∧ SliceIs w'' (.slice xa 32 xc) (rootL PS) ∧ w'.grownBy w'' none) := fun w' v' hg h => TRootOK.tree hR w' v' PS h hT (ht.grownNone hg)
  have HP : Hid (∀ (i : Nat), i < PS.length → ∃ ns : Nat, ns < PS.length ∧ ∃ Q : Prf, ∀ w' v' u', w.grownBy w' none → PairsIs w' v' PS → SliceIs w' u' (PS.getD i ([], [])).1 → Calls Tryd.prog 9 #[v', u'] w' fun e w'' => ∃ sa sc ka kc va vc, e = .returned (.tuple #[.agg #[.bool false, .slice sa ns sc, .slice ka (PS.getD i ([], [])).1.length kc, .slice va (PS.getD i ([], [])).2.length vc], .int .i64 0]) ∧ SliceIs w'' (.slice ka (PS.getD i ([], [])).1.length kc) (PS.getD i ([], [])).1 ∧ SliceIs w'' (.slice va (PS.getD i ([], [])).2.length vc) (PS.getD i ([], [])).2 ∧ (∀ w3 r' y', w.grownBy w3 none → w''.grownBy w3 none → SliceIs w3 r' (rootL PS) → SliceIs w3 y' (PS.getD i ([], [])).1 → Calls Tryd.prog 15 #[r', y', .agg #[.bool false, .slice sa ns sc, .slice ka (PS.getD i ([], [])).1.length kc, .slice va (PS.getD i ([], [])).2.length vc]] w3 fun e w4 => ∃ xa xc, e = .returned (.tuple #[.agg #[.bool true, .slice xa (PS.getD i ([], [])).2.length xc], .int .i64 0]) ∧ SliceIs w4 (.slice xa (PS.getD i ([], [])).2.length xc) (PS.getD i ([], [])).2 ∧ w3.grownBy w4 none) ∧ w'.grownBy w'' none) := by
    intro i hi
    obtain ⟨f1, f2, f3, f4, f5⟩ := prove_there hT i hi
    obtain ⟨e0, e1, e2, e3⟩ := prove_holds hT (PS.getD i ([], [])).1 f5
    have hfit := prove_fits hT (PS.getD i ([], [])).1
    rw [f4] at e2 e3
    refine ⟨_, f3, proveL PS (PS.getD i ([], [])).1, ?_⟩
    intro w' v' u' hg h1 h2
    refine (PProveOK.of hP w' v' u' PS _ h1 h2 hT f5 (ht.grownNone hg)).mono ?_
    rintro e w'' ⟨sa, sc, ka, kc, va, vc, rfl, hp, hg'⟩
    have hpi := hp.is
    rw [f1] at hpi ⊢
    rw [f2] at hpi ⊢
    obtain ⟨vs, vk, vv, eq, hs, hk, hv2⟩ := hpi
    rw [f1] at eq
    simp only [Value.agg.injEq] at eq
    have eq1 := congrArg (fun a => a[1]?) eq
    have eq2 := congrArg (fun a => a[2]?) eq
    have eq3 := congrArg (fun a => a[3]?) eq
    simp at eq1 eq2 eq3
    subst eq1 eq2 eq3
    rw [f2] at hk hv2
    refine ⟨sa, sc, ka, kc, va, vc, rfl, hk, hv2, ?_, hg'⟩
    intro w3 r' y' hg3 hg4 hr hy
    have hpi2 : ProofIs w3 (.agg #[.bool false, .slice sa (proveL PS (PS.getD i ([], [])).1).steps.length sc, .slice ka (PS.getD i ([], [])).1.length kc, .slice va (PS.getD i ([], [])).2.length vc]) (proveL PS (PS.getD i ([], [])).1) := by
      have := hp.is.grown hg4
      rw [f1, f2] at this
      exact this
    exact PVerifyOK.of hV w3 r' y' _ _ _ _ 0 true _ hr hy hpi2 hfit (ht.grownNone hg3) e1 e2 e3
  generalize rootL PS = R at *
  have hroom := hT.room
  clear hM hR hP hV hl ht hT
  go_enter Tryd.func6, Tryd.ntmps6
  go_wp2_with fail
  refine HM.out.mono ?_
  rintro e w1 ⟨v1, rfl, ho1, hg1⟩
  obtain ⟨pa, pc, rfl⟩ := ho1.shape
  have HL : Hid (PairsIs w1 (.slice pa PS.length pc) PS) := ho1.list
  clear ho1 HM hv
  go_wp2_with fail
  refine (HR.out _ _ hg1 HL.out).mono ?_
  rintro e w2 ⟨ra, rc, rfl, hr2, hg2⟩
  have hg02 := grown_trans hg1 hg2
  have HRT : Hid (SliceIs w2 (.slice ra 32 rc) R) := hr2
  have HL2 : Hid (PairsIs w2 (.slice pa PS.length pc) PS) := HL.out.grown hg2
  clear hr2 HL HR hg1 hg2
  go_wp2_with fail
  go_loopw [6] (fun s6 wr => ∃ m : Nat, m ≤ PS.length ∧ s6 = .int .i64 (m : Int) ∧ w2.grownBy wr none) (fun s6 _ => PS.length - (intOf s6).toNat)
  case atStart => exact ⟨0, by omega, rfl, grown_refl _ _⟩
  case round =>
    obtain ⟨m, hm, rfl, hgr⟩ := hrel
    have hgw := grown_trans hg02 hgr
    by_cases hlt : m < PS.length
    · have i1 : (m : Int) < (PS.length : Int) := by omega
      have i0 : (0 : Int) ≤ (m : Int) := by omega
      obtain ⟨ns, hns, Q, HPm⟩ := HP.out m hlt
      obtain ⟨b, o, e, hat⟩ := HL2.out.at m hlt
      subst e
      obtain ⟨vk, vv, c1, c2, s1, s2⟩ := hat.grown hgr
      generalize PS.getD m ([], []) = P at *
      obtain ⟨ka, kc, rfl⟩ := s1.shape
      obtain ⟨va, vc, rfl⟩ := s2.shape
      have SK : Hid (SliceIs wr (.slice ka P.1.length kc) P.1) := s1
      have SV : Hid (SliceIs wr (.slice va P.2.length vc) P.2) := s2
      have PM := HPm wr (.slice (some ⟨b, o, none⟩) PS.length pc) (.slice ka P.1.length kc) hgw (HL2.out.grown hgr) s1
      have PR : Hid (Calls Tryd.prog 9 #[.slice (some ⟨b, o, none⟩) PS.length pc, .slice ka P.1.length kc] wr fun e w'' => ∃ sa sc qa qc na nc, e = .returned (.tuple #[.agg #[.bool false, .slice sa ns sc, .slice qa P.1.length qc, .slice na P.2.length nc], .int .i64 0]) ∧ SliceIs w'' (.slice qa P.1.length qc) P.1 ∧ SliceIs w'' (.slice na P.2.length nc) P.2 ∧ (∀ w3 r' y', w.grownBy w3 none → w''.grownBy w3 none → SliceIs w3 r' R → SliceIs w3 y' P.1 → Calls Tryd.prog 15 #[r', y', .agg #[.bool false, .slice sa ns sc, .slice qa P.1.length qc, .slice na P.2.length nc]] w3 fun e w4 => ∃ xa xc, e = .returned (.tuple #[.agg #[.bool true, .slice xa P.2.length xc], .int .i64 0]) ∧ SliceIs w4 (.slice xa P.2.length xc) P.2 ∧ w3.grownBy w4 none) ∧ wr.grownBy w'' none) := PM
      have hge : ¬ ((PS.length : Int) ≤ (ns : Int)) := by omega
      have hbw : b < wr.heap.size := cell_lt c1
      clear PM HPm s1 s2 hat Q
      go_wp2_with fail
      refine PR.out.mono ?_
      rintro e w3 ⟨sa, sc, qa, qc, na, nc, rfl, hq3, hn3, hver, hg3⟩
      have HVER : Hid (∀ w4 r' y', w.grownBy w4 none → w3.grownBy w4 none → SliceIs w4 r' R → SliceIs w4 y' P.1 → Calls Tryd.prog 15 #[r', y', .agg #[.bool false, .slice sa ns sc, .slice qa P.1.length qc, .slice na P.2.length nc]] w4 fun e w5 => ∃ xa xc, e = .returned (.tuple #[.agg #[.bool true, .slice xa P.2.length xc], .int .i64 0]) ∧ SliceIs w5 (.slice xa P.2.length xc) P.2 ∧ w4.grownBy w5 none) := hver
      have HQ3 : Hid (SliceIs w3 (.slice qa P.1.length qc) P.1) := hq3
      have HN3 : Hid (SliceIs w3 (.slice na P.2.length nc) P.2) := hn3
      obtain ⟨W4, hW4⟩ : ∃ W4 : World, W4 = w3.alloc (.cells #[.bool false, .slice sa ns sc, .slice qa P.1.length qc, .slice na P.2.length nc] 29) := ⟨_, rfl⟩
      have HW4 : Hid (W4 = w3.alloc (.cells #[.bool false, .slice sa ns sc, .slice qa P.1.length qc, .slice na P.2.length nc] 29)) := hW4
      have hga4 : w3.grownBy W4 none := by rw [hW4]; exact World.grownBy_alloc _ _ _
      have hsz4 : w3.heap.size < W4.heap.size := by rw [hW4]; simp
      have bQ : W4.heap[w3.heap.size]? = some (.cells #[.bool false, .slice sa ns sc, .slice qa P.1.length qc, .slice na P.2.length nc] 29) := by rw [hW4]; exact heap_alloc_new w3 _
      obtain ⟨⟨b0, b1, b2, b3⟩, _⟩ := quad_room (grown_refl W4 none) bQ
      have hg34 := grown_trans hg3 hga4
      have hgr4 := grown_trans hgr hg34
      have hgw4 := grown_trans hgw hg34
      have d1 := hg34.cell c1 (by simp)
      have d2 := hg34.cell c2 (by simp)
      have hbW : b < W4.heap.size := cell_lt d1
      clear hq3 hn3 hver hW4 bQ PR c1 c2
      go_upto_region 7 with fail
      rw [← HW4.out]
      go_cut [9, 10] from 18 to 84 (fun s9 s10 wx => ∃ (nb : Nat) (fa : Option Addr) (fc : Nat), s9 = .pointer (some ⟨nb, 0, none⟩) ∧ s10 = .int .i64 0 ∧ wx.heap[nb]? = some (.cells #[.bool true, .slice fa P.2.length fc] 39) ∧ SliceIs wx (.slice fa P.2.length fc) P.2 ∧ W4.grownBy wx none)
      case first =>
        have hgd := grown_drew (grown_refl W4 none)
        obtain ⟨WA, hWA⟩ : ∃ WA : World, WA = W4.alloc (.cells #[.bool false, .slice none 0 0] 39) := ⟨_, rfl⟩
        have hgA : W4.grownBy WA.drew none := by rw [hWA]; exact grown_drew (World.grownBy_alloc _ _ _)
        have HPA : Hid (WA.drew.heap[W4.heap.size]? = some (.cells #[.bool false, .slice none 0 0] 39)) := by rw [hWA]; exact heap_alloc_new W4 _
        have HWA : Hid (WA = W4.alloc (.cells #[.bool false, .slice none 0 0] 39)) := hWA
        clear hWA
        have hwz : w3.heap.size ≠ W4.heap.size := by omega
        have hbz : b ≠ W4.heap.size := by omega
        have e0 := hgd.cell b0 (by simp)
        have e1 := hgd.cell b1 (by simp)
        have e2 := hgd.cell b2 (by simp)
        have e3 := hgd.cell b3 (by simp)
        have e4 := hgd.cell d1 (by simp)
        have m0 := hgA.cell b0 (by simp)
        have m1 := hgA.cell b1 (by simp)
        have m2 := hgA.cell b2 (by simp)
        have m3 := hgA.cell b3 (by simp)
        have m4 := hgA.cell d1 (by simp)
        go_region_held3 (fun w' => w'.cell? ⟨w3.heap.size, 0, none⟩ = some (.bool false) ∧ w'.cell? ⟨w3.heap.size, 1, none⟩ = some (.slice sa ns sc) ∧ w'.cell? ⟨w3.heap.size, 2, none⟩ = some (.slice qa P.1.length qc) ∧ w'.cell? ⟨w3.heap.size, 3, none⟩ = some (.slice na P.2.length nc) ∧ w'.cell? ⟨b, o + m * 2, none⟩ = some (.slice ka P.1.length kc))
          (first | with_reducible exact ⟨e0, e1, e2, e3, e4⟩ | (rw [← HWA.out]; with_reducible exact ⟨m0, m1, m2, m3, m4⟩) | with_reducible exact ⟨j0, j1, j2, j3, j4⟩ | with_reducible exact ⟨(World.grownBy_alloc _ _ none).cell j0 (by simp), (World.grownBy_alloc _ _ none).cell j1 (by simp), (World.grownBy_alloc _ _ none).cell j2 (by simp), (World.grownBy_alloc _ _ none).cell j3 (by simp), (World.grownBy_alloc _ _ none).cell j4 (by simp)⟩ | with_reducible exact ⟨cell_duo j0 hwz, cell_duo j1 hwz, cell_duo j2 hwz, cell_duo j3 hwz, cell_duo j4 hbz⟩)
          (first
            | (go_at_call 15
               first
                 | (rw [← HWA.out]; with_reducible refine (HVER.out _ _ _ (grown_trans hgw4 hgA) (grown_trans hga4 hgA) (HRT.out.grown (grown_trans hgr4 hgA)) (SK.out.grown (grown_trans hg34 hgA))).mono ?_
                    rintro e w5 ⟨fa, fc, rfl, hf5, hg5⟩
                    have hgm : W4.grownBy w5 none := grown_trans hgA hg5
                    refine pair_room_elim (b := W4.heap.size) hg5 HPA.out ?_; intro hpb0 cA cB fA fB; have HPB : Hid (w5.heap[W4.heap.size]? = some (.cells #[.bool false, .slice none 0 0] 39)) := hpb0; clear hpb0)
                 | (with_reducible refine (HVER.out _ _ _ (grown_trans hgw4 hgd) (grown_trans hga4 hgd) (HRT.out.grown (grown_trans hgr4 hgd)) (SK.out.grown (grown_trans hg34 hgd))).mono ?_
                    rintro e w5 ⟨fa, fc, rfl, hf5, hg5⟩
                    have hgm : W4.grownBy w5 none := grown_trans hgd hg5)
               have j0 := hgm.cell b0 (by simp)
               have j1 := hgm.cell b1 (by simp)
               have j2 := hgm.cell b2 (by simp)
               have j3 := hgm.cell b3 (by simp)
               have j4 := hgm.cell d1 (by simp)
               have HF5 : Hid (SliceIs w5 (.slice fa P.2.length fc) P.2) := hf5
               clear hf5))
        all_goals (go_wp2_with fail; go_meet; case rel =>
          first
            | exact ⟨w5.heap.size, fa, fc, rfl, rfl, heap_alloc_new w5 _, HF5.out.alloc _, grown_alloc hgm _⟩
            | exact ⟨W4.heap.size, fa, fc, rfl, rfl, two_set HPB.out _ _, HF5.out.findingSet HPB.out _ _, grown_setNew (grown_setNew hgm _ (Nat.le_refl _) _ _) _ (Nat.le_refl _) _ _⟩)
      case rest =>
        obtain ⟨nb, fa, fc, rfl, rfl, hnb, hfx, hgx⟩ := hcut
        obtain ⟨W5, hW5⟩ : ∃ W5 : World, W5 = wc := ⟨_, rfl⟩
        subst hW5
        have hgd := grown_drew hgx
        have SM : Hid (∀ w', W5.grownBy w' none → Calls Tryd.prog 22 #[.slice fa P.2.length fc, .slice va P.2.length vc] w' fun e w'' => e = .returned (.bool true) ∧ w'' = w') := fun w' hg => by
          have := same_any w' _ _ P.2 P.2 (hfx.grown hg) ((SV.out.grown (grown_trans hg34 hgx)).grown hg)
          rw [decide_eq_true rfl] at this
          exact this
        have SP : Hid (∀ w', W5.grownBy w' none → Calls Tryd.prog 24 #[.agg #[.slice qa P.1.length qc, .slice na P.2.length nc], .agg #[.slice ka P.1.length kc, .slice va P.2.length vc]] w' fun e w'' => e = .returned (.bool true) ∧ w'.grownBy w'' none) := fun w' hg => by
          have := ksamePair_any w' _ _ P P ⟨_, _, rfl, HQ3.out.grown (grown_trans hga4 (grown_trans hgx hg)), HN3.out.grown (grown_trans hga4 (grown_trans hgx hg))⟩ ⟨_, _, rfl, SK.out.grown (grown_trans hg34 (grown_trans hgx hg)), SV.out.grown (grown_trans hg34 (grown_trans hgx hg))⟩
          rw [decide_eq_true rfl] at this
          exact this
        obtain ⟨n0, n1, _, _⟩ := two_cells hnb
        have h0 := hgx.cell b0 (by simp)
        have h1 := hgx.cell b1 (by simp)
        have h2 := hgx.cell b2 (by simp)
        have h3 := hgx.cell b3 (by simp)
        have h4 := hgx.cell d1 (by simp)
        have h5 := hgx.cell d2 (by simp)
        have hg5 := grown_drew (grown_refl W5 none)
        have hgwx := grown_trans hgr4 hgx
        have e0 := hg5.cell h0 (by simp)
        have e1 := hg5.cell h1 (by simp)
        have e2 := hg5.cell h2 (by simp)
        have e3 := hg5.cell h3 (by simp)
        have e4 := hg5.cell h4 (by simp)
        have e5 := hg5.cell h5 (by simp)
        have e6 := hg5.cell n0 (by simp)
        have e7 := hg5.cell n1 (by simp)
        generalize P.1.length = nk at *
        generalize P.2.length = nv at *
        clear hnb hfx SK SV HQ3 HN3 HVER b0 b1 b2 b3 d1 d2 hgx hgd HW4 hga4 hg34 hgr4 hgw4
        go_upto_region 8 with fail
        go_region_held3 (fun w' => w'.cell? ⟨w3.heap.size, 0, none⟩ = some (.bool false) ∧ w'.cell? ⟨w3.heap.size, 1, none⟩ = some (.slice sa ns sc) ∧ w'.cell? ⟨w3.heap.size, 2, none⟩ = some (.slice qa nk qc) ∧ w'.cell? ⟨w3.heap.size, 3, none⟩ = some (.slice na nv nc) ∧ w'.cell? ⟨b, o + m * 2, none⟩ = some (.slice ka nk kc) ∧ w'.cell? ⟨b, o + m * 2 + 1, none⟩ = some (.slice va nv vc) ∧ w'.cell? ⟨nb, 0, none⟩ = some (.bool true) ∧ w'.cell? ⟨nb, 1, none⟩ = some (.slice fa nv fc))
          (first | with_reducible exact ⟨e0, e1, e2, e3, e4, e5, e6, e7⟩ | with_reducible exact ⟨j0, j1, j2, j3, j4, j5, j6, j7⟩)
          (first
            | (go_at_call 22; with_reducible refine (SM.out _ hg5).mono ?_
               rintro e w6 ⟨rfl, rfl⟩)
            | (go_at_call 24; with_reducible refine (SP.out _ hg5).mono ?_
               rintro e w6 ⟨rfl, hg6⟩
               have hg56 := grown_trans hg5 hg6
               have j0 := hg6.cell e0 (by simp)
               have j1 := hg6.cell e1 (by simp)
               have j2 := hg6.cell e2 (by simp)
               have j3 := hg6.cell e3 (by simp)
               have j4 := hg6.cell e4 (by simp)
               have j5 := hg6.cell e5 (by simp)
               have j6 := hg6.cell e6 (by simp)
               have j7 := hg6.cell e7 (by simp)))
        all_goals (
          go_wp2_with fail
          go_roundw
          case rel => exact ⟨m + 1, by omega, by go_num, grown_trans hgwx hg56⟩
          case measure => simp [intOf]; omega)
    · obtain rfl : m = PS.length := by omega
      clear hlt
      go_wp2
      go_ret
      exact ⟨rfl, hgw⟩
end Go.Proofs.YtedmhejnbapklaaDoor
