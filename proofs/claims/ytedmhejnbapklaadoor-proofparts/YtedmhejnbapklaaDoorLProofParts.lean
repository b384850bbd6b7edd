/-
  The walk of canopykeep.ProofParts, over what the code must keep.
-/
import Derived.Test.YtedmhejnbapklaaDoorLPK
import Derived.Test.YtedmhejnbapklaaDoorPart2
import Derived.Test.YtedmhejnbapklaaDoorPart5
namespace Go.Proofs.YtedmhejnbapklaaDoor
open Go.RowKit
theorem prove_few' {l : PL} (hT : Tree l) (k : List UInt8) : (proveL l k).steps.length = 0 ↔ l.length < 2 := by
  unfold proveL
  by_cases h : l.length = 0
  · rw [if_pos h]; simp; omega
  · rw [if_neg h]
    by_cases h2 : l.length < 2
    · rw [(steps_few l k h2).1]; simp; omega
    · rw [(steps_more k hT (by omega)).1]; simp; omega
set_option maxRecDepth 100000 in
set_option maxHeartbeats 2000000 in
theorem proofParts_walk (hM : KMakeOK) (hR : TRootOK) (hP : PProveOK) (hV : PVerifyOK) (hG : TGetOK) (hB : BitOK) (w : World) (v u : Value) (l : PL) (kb : List UInt8) (hv : PairsIs w v l) (hu : SliceIs w u kb) (hl : Fits l) (hkl : kb.length ≤ maxLen) (ht : Tabs w) :
    Calls Tryd.prog 7 #[v, u] w fun e w' => e = .returned (.bool true) ∧ w.grownBy w' none := by
  have hT := mkT_tree l 20 (by omega)
  have hTl := mkT_len l 20 (by omega)
  have hK := keyF_len kb
  have HM : Hid (Calls Tryd.prog 18 #[v, .int .i64 20] w fun e w' => ∃ v', e = .returned v' ∧ OwnP w.heap.size w' v' (mkT (l.take 20)) ∧ w.grownBy w' none) := hM w v l 20 hv hl (by omega)
  have HK : Hid (∀ w', w.grownBy w' none → Calls Tryd.prog 19 #[u] w' fun e w'' => ∃ v', e = .returned v' ∧ SliceIs w'' v' (keyF kb) ∧ w'.grownBy w'' none) := fun w' hg => key_any w' u kb (hu.grown hg) hkl
  generalize mkT (l.take 20) = PS at *
  generalize keyF kb = K at *
  have hfew := prove_few' hT K
  have HP : Hid (∀ w' v' u', w.grownBy w' none → PairsIs w' v' PS → SliceIs w' u' K → Calls Tryd.prog 9 #[v', u'] w' fun e w'' => ∃ sa sc ka kc va vc, e = .returned (.tuple #[.agg #[.bool (proveL PS K).empty, .slice sa (proveL PS K).steps.length sc, .slice ka (proveL PS K).pair.1.length kc, .slice va (proveL PS K).pair.2.length vc], .int .i64 0]) ∧ ProofNew w'.heap.size w'' (.agg #[.bool (proveL PS K).empty, .slice sa (proveL PS K).steps.length sc, .slice ka (proveL PS K).pair.1.length kc, .slice va (proveL PS K).pair.2.length vc]) (proveL PS K) ∧ w'.grownBy w'' none) := fun w' v' u' hg h1 h2 => PProveOK.of hP w' v' u' PS K h1 h2 hT hK (ht.grownNone hg)
  by_cases h2 : PS.length < 2
  · have hs0 := hfew.2 h2
    have t2 : (PS.length : Int) < 2 := by omega
    rw [hs0] at HP
    generalize proveL PS K = PF at *
    generalize PF.empty = EB at *
    generalize PF.pair.1.length = n2 at *
    generalize PF.pair.2.length = n3 at *
    clear hM hR hP hV hG hB hv hu hl hkl ht hT hK hfew hs0 h2 hTl
    go_enter Tryd.func7, Tryd.ntmps7
    go_wp2_with fail
    refine HM.out.mono ?_
    rintro e w1 ⟨v1, rfl, ho1, hg1⟩
    obtain ⟨pa, pc, rfl⟩ := ho1.shape
    have HL : Hid (PairsIs w1 (.slice pa PS.length pc) PS) := ho1.list
    clear ho1
    go_wp2_with fail
    refine (HK.out _ hg1).mono ?_
    rintro e w2 ⟨v2, rfl, hk2, hg2⟩
    obtain ⟨ka, kc, rfl⟩ := hk2.shape
    have hg02 := grown_trans hg1 hg2
    have HKY : Hid (SliceIs w2 (.slice ka K.length kc) K) := hk2
    clear hk2
    go_wp2_with fail
    refine (HP.out _ _ _ hg02 (HL.out.grown hg2) HKY.out).mono ?_
    rintro e w4 ⟨sa, sc, qa, qc, va, vc, rfl, _, hg4⟩
    go_wp2
    go_ret
    exact ⟨rfl, grown_alloc (grown_trans hg02 hg4) _⟩
  · have h2' : 2 ≤ PS.length := by omega
    obtain ⟨e1, e2, e3, e4, e5⟩ := prove_side hT h2' K
    have hr := forkBit_range hT h2'
    obtain ⟨B, hBB⟩ : ∃ B : Nat, forkBit PS = (B : Int) := ⟨(forkBit PS).toNat, by omega⟩
    have hB145 : B < 145 := by omega
    have hTm : Tree (mine PS K) := side_tree hT _ _
    obtain ⟨q0, q1, q2, q3⟩ := prove_holds hTm K hK
    rw [e5] at q2 q3
    have hfit := prove_fits hTm K
    have hml : (mine PS K).length < PS.length := mine_less hT h2' K
    have HR : Hid (∀ w' v', w.grownBy w' none → PairsIs w' v' (mine PS K) → Calls Tryd.prog 20 #[v'] w' fun e w'' => ∃ xa xc, e = .returned (.tuple #[.slice xa 32 xc, .int .i64 0]) ∧ SliceIs w'' (.slice xa 32 xc) (rootL (mine PS K)) ∧ w'.grownBy w'' none) := fun w' v' hg h => TRootOK.tree hR w' v' _ h hTm (ht.grownNone hg)
    have HV : Hid (∀ w' r' u' x', w.grownBy w' none → SliceIs w' r' (rootL (mine PS K)) → SliceIs w' u' K → ProofIs w' x' (proveL (mine PS K) K) → Calls Tryd.prog 15 #[r', u', x'] w' fun e w'' => ∃ xa xc, e = .returned (.tuple #[.agg #[.bool (getF PS K).isSome, .slice xa ((getF PS K).getD []).length xc], .int .i64 0]) ∧ SliceIs w'' (.slice xa ((getF PS K).getD []).length xc) ((getF PS K).getD []) ∧ w'.grownBy w'' none) := fun w' r' u' x' hg h1 h2 h3 => PVerifyOK.of hV w' r' u' x' _ K _ 0 _ _ h1 h2 h3 hfit (ht.grownNone hg) q1 q2 q3
    have HG : Hid (∀ w' v' u', PairsIs w' v' PS → SliceIs w' u' K → Calls Tryd.prog 21 #[v', u'] w' fun e w'' => ∃ xa xc, e = .returned (.tuple #[.agg #[.bool (getF PS K).isSome, .slice xa ((getF PS K).getD []).length xc], .int .i64 0]) ∧ SliceIs w'' (.slice xa ((getF PS K).getD []).length xc) ((getF PS K).getD []) ∧ w'.grownBy w'' none) := fun w' v' u' h1 h2 => TGetOK.of hG w' v' u' PS K h1 h2 hT hK
    have HBT : Hid (∀ (w' : World) (v' : Value) (j : Nat), j < PS.length → SliceIs w' v' (PS.getD j ([], [])).1 → Calls Tryd.prog 25 #[v', .int .i64 (B : Int)] w' fun e w'' => e = .returned (.tuple #[.bool (kbit (PS.getD j ([], [])).1 B), .int .i64 0]) ∧ w'.grownBy w'' none) := fun w' v' j hj h => BitOK.of hB w' v' _ B h (by
      have := (hT.pairs PS[j] (List.getElem_mem hj)).1
      simpa [hj] using this) hB145
    have HMINE : Hid (mine PS K = sideL PS B (kbit K B)) := by
      show _ = _
      unfold mine
      rw [hBB, Int.toNat_natCast]
    have HST : Hid ((proveL PS K).steps = ⟨(B : Int), kbit K B, rootL (theirs PS K)⟩ :: (proveL (mine PS K) K).steps) := by
      show _ = _
      rw [e1, stepOf, hBB, Int.toNat_natCast]
    have HPQ : Hid (proveL (mine PS K) K = ⟨false, (proveL (mine PS K) K).steps, (proveL PS K).pair⟩) := by
      show _ = _
      rw [← e2, ← e3]
    rw [e4] at HP
    have hsl : (proveL PS K).steps.length = (proveL (mine PS K) K).steps.length + 1 := by rw [e1]; simp
    rw [hsl] at HP
    have hroom := hT.room
    have hm20 : (proveL (mine PS K) K).steps.length ≤ 60 := by
      have h60 := hTm.room
      unfold proveL
      by_cases h : (mine PS K).length = 0
      · rw [if_pos h]; simp
      · rw [if_neg h]; have := steps_len K hTm (by omega); simp; omega
    clear hM hR hP hV hG hB hv hu hl hkl ht hK hfew e1 e2 e3 e4 e5 hr hBB q0 q1 q2 q3 hfit hTm hsl h2
    generalize rootL (theirs PS K) = RO at *
    generalize rootL (mine PS K) = R at *
    generalize hMI : mine PS K = MI at *
    generalize kbit K B = Z at *
    generalize proveL MI K = PQ at *
    generalize proveL PS K = PF at *
    generalize (getF PS K).getD [] = GV at *
    generalize (getF PS K).isSome = GB at *
    generalize PQ.steps.length = N at *
    generalize PF.pair.1.length = n2 at *
    generalize PF.pair.2.length = n3 at *
    clear hMI
    have gbb : Hid ((GB == GB) = true) := by show _ = _; simp
    have HTT : Hid (Tree PS) := hT
    clear hT
    go_enter Tryd.func7, Tryd.ntmps7
    go_wp2_with fail
    refine HM.out.mono ?_
    rintro e w1 ⟨v1, rfl, ho1, hg1⟩
    obtain ⟨pa, pc, rfl⟩ := ho1.shape
    have HL : Hid (PairsIs w1 (.slice pa PS.length pc) PS) := ho1.list
    clear ho1
    go_wp2_with fail
    refine (HK.out _ hg1).mono ?_
    rintro e w2 ⟨v2, rfl, hk2, hg2⟩
    obtain ⟨ka, kc, rfl⟩ := hk2.shape
    have hg02 := grown_trans hg1 hg2
    have HKY : Hid (SliceIs w2 (.slice ka K.length kc) K) := hk2
    clear hk2
    go_wp2_with fail
    refine (HP.out _ _ _ hg02 (HL.out.grown hg2) HKY.out).mono ?_
    rintro e w4 ⟨sa, sc, qa, qc, va, vc, rfl, hp4, hg4⟩
    have hg04 := grown_trans hg02 hg4
    obtain ⟨base0, _, _, _, e, _, _, hoS, hpk, hpv⟩ := hp4
    simp only [Value.agg.injEq, Array.mk.injEq, List.cons.injEq, and_true] at e
    obtain ⟨hx0, rfl, rfl, rfl⟩ := e
    clear hx0
    have HSI : Hid (StepsIs w4 (.slice sa (N + 1) sc) PF.steps) := hoS.list
    have HPK : Hid (SliceIs w4 (.slice qa n2 qc) PF.pair.1) := hpk.1
    have HPV : Hid (SliceIs w4 (.slice va n3 vc) PF.pair.2) := hpv.1
    clear hoS hpk hpv
    obtain ⟨sb, so, rfl, hat⟩ := HSI.out.at 0 (by rw [HST.out]; simp)
    rw [show PF.steps.getD 0 noStp = ⟨(B : Int), Z, RO⟩ by rw [HST.out]; rfl, Nat.zero_mul, Nat.add_zero] at hat
    have hga4 := World.grownBy_alloc w4 (.cells #[.bool false, .slice (some ⟨sb, so, none⟩) (N + 1) sc, .slice qa n2 qc, .slice va n3 vc] 29) none
    have hbq := heap_alloc_new w4 (.cells #[.bool false, .slice (some ⟨sb, so, none⟩) (N + 1) sc, .slice qa n2 qc, .slice va n3 vc] 29)
    obtain ⟨⟨y0, y1, y2, y3⟩, _⟩ := quad_room (grown_refl _ none) hbq
    obtain ⟨ov, a0, a1, a2, aso⟩ := hat.grown hga4
    obtain ⟨oa, oc, rfl⟩ := aso.shape
    dsimp only at a0 a1
    generalize RO.length = nro at *
    have t0 : ((((N + 1 : Nat) : Int)) == 0) = false := by rw [beq_eq_false_iff_ne]; omega
    have t1 : (0 : Nat) < N + 1 := by omega
    have t1' : (0 : Int) < ((N + 1 : Nat) : Int) := by omega
    obtain ⟨W5, hW5⟩ : ∃ W5 : World, W5 = (w4.alloc (.cells #[.bool false, .slice (some ⟨sb, so, none⟩) (N + 1) sc, .slice qa n2 qc, .slice va n3 vc] 29)).alloc (.cells #[.int .i64 (B : Int), .bool Z, .slice oa nro oc] 55) := ⟨_, rfl⟩
    have HW5 : Hid (W5 = (w4.alloc (.cells #[.bool false, .slice (some ⟨sb, so, none⟩) (N + 1) sc, .slice qa n2 qc, .slice va n3 vc] 29)).alloc (.cells #[.int .i64 (B : Int), .bool Z, .slice oa nro oc] 55)) := hW5
    have hg45 : w4.grownBy W5 none := by rw [hW5]; exact grown_alloc hga4 _
    have HQ5 : Hid (W5.heap[w4.heap.size]? = some (.cells #[.bool false, .slice (some ⟨sb, so, none⟩) (N + 1) sc, .slice qa n2 qc, .slice va n3 vc] 29)) := by
      show _ = _
      rw [hW5]; exact pair_old (World.grownBy_alloc _ _ _) hbq
    have HS5 : Hid (W5.heap[w4.heap.size + 1]? = some (.cells #[.int .i64 (B : Int), .bool Z, .slice oa nro oc] 55)) := by
      have := heap_alloc_new (w4.alloc (.cells #[.bool false, .slice (some ⟨sb, so, none⟩) (N + 1) sc, .slice qa n2 qc, .slice va n3 vc] 29)) (.cells #[.int .i64 (B : Int), .bool Z, .slice oa nro oc] 55)
      rw [World.size_alloc] at this
      show _ = _
      rw [hW5]; exact this
    have hgw5 := grown_trans hg04 hg45
    have HL5 : Hid (PairsIs W5 (.slice pa PS.length pc) PS) := HL.out.grown (grown_trans hg2 (grown_trans hg4 hg45))
    have HK5 : Hid (SliceIs W5 (.slice ka K.length kc) K) := HKY.out.grown (grown_trans hg4 hg45)
    have HSI5 : Hid (StepsIs W5 (.slice (some ⟨sb, so, none⟩) (N + 1) sc) PF.steps) := HSI.out.grown hg45
    have HPK5 : Hid (SliceIs W5 (.slice qa n2 qc) PF.pair.1) := HPK.out.grown hg45
    have HPV5 : Hid (SliceIs W5 (.slice va n3 vc) PF.pair.2) := HPV.out.grown hg45
    obtain ⟨⟨s0, s1, s2⟩, _⟩ := three_cells HS5.out
    have HW5S : Hid (W5.heap.size = W5.heap.size) := rfl
    clear hW5 hat aso hbq HSI HPK HPV HL HKY hg45 hga4 hg04 hg4 hg2 hg02 hg1 HP HK HM
    go_wp2_with fail
    rw [← HW5.out]
    go_loopw [10, 11] (fun sv si wr => ∃ m : Nat, m ≤ PS.length ∧ si = .int .i64 (m : Int) ∧ OwnP W5.heap.size wr sv (sideL (PS.take m) B Z) ∧ W5.grownBy wr none) (fun _ si _ => PS.length - (intOf si).toNat)
    case atStart => exact ⟨0, by omega, rfl, ownP_nil _ _, grown_refl _ _⟩
    case round =>
      obtain ⟨m, hm, rfl, hown, hgr⟩ := hrel
      obtain ⟨xa, xc, rfl⟩ := hown.shape
      by_cases hlt : m < PS.length
      · have i1 : (m : Int) < (PS.length : Int) := by omega
        obtain ⟨pb, po, rfl, hat⟩ := HL5.out.at m hlt
        obtain ⟨vk, vv, c1, c2, k1, k2⟩ := hat
        have HT := side_take PS B Z m hlt
        have hsl : (sideL (PS.take m) B Z).length ≤ 60 := by
          have := List.length_filter_le (fun q : Pr => kbit q.1 B == Z) (PS.take m)
          simp [sideL] at this ⊢
          omega
        have BT : Hid (∀ w', W5.grownBy w' none → Calls Tryd.prog 25 #[vk, .int .i64 (B : Int)] w' fun e w'' => e = .returned (.tuple #[.bool (kbit (PS.getD m ([], [])).1 B), .int .i64 0]) ∧ w'.grownBy w'' none) := fun w' hg => HBT.out w' vk m hlt (k1.grown hg)
        have PK : Hid (∀ w', W5.grownBy w' none → PartIs W5.heap.size w' vk (PS.getD m ([], [])).1 ∧ PartIs W5.heap.size w' vv (PS.getD m ([], [])).2) := fun w' hg => ⟨k1.part hg _ (Nat.le_refl _), k2.part hg _ (Nat.le_refl _)⟩
        obtain ⟨ya, yc, rfl⟩ := k1.shape
        obtain ⟨za, zc, rfl⟩ := k2.shape
        generalize PS.getD m ([], []) = P at *
        generalize P.1.length = p1 at *
        generalize P.2.length = p2 at *
        have HO : Hid (OwnP W5.heap.size wr (.slice xa (sideL (PS.take m) B Z).length xc) (sideL (PS.take m) B Z)) := hown
        generalize sideL (PS.take m) B Z = D at *
        have hgd := grown_drew (grown_refl wr none)
        have hgrd := grown_trans hgr hgd
        have e1 := hgrd.cell c1 (by simp)
        have e2 := hgrd.cell s0 (by simp)
        have HTH : Hid (sideL (PS.take (m + 1)) B Z = if kbit P.1 B = Z then D ++ [P] else D) := HT
        clear k1 k2 hown HT HTT
        cases hz : decide (kbit P.1 B = Z) with
        | true =>
          have hz' := of_decide_eq_true hz
          rw [hz'] at BT
          have HT2 : Hid (sideL (PS.take (m + 1)) B Z = D ++ [P]) := by
            show _ = _
            rw [HTH.out, if_pos hz']
          clear hz hz' HTH
          go_wp2_with fail
          go_region_held3 (fun w' => w'.cell? ⟨pb, po + m * 2, none⟩ = some (.slice ya p1 yc) ∧ w'.cell? ⟨w4.heap.size + 1, 0, none⟩ = some (.int .i64 (B : Int)))
            (first | exact ⟨e1, e2⟩ | exact ⟨f1, f2⟩)
            (first | (go_at_call 25; refine (BT.out _ hgrd).mono ?_; rintro e w6 ⟨rfl, hg6⟩; have f1 := hg6.cell e1 (by simp); have f2 := hg6.cell e2 (by simp)))
          have hg56 := grown_trans hgrd hg6
          have j0 := hg56.cell s0 (by simp)
          have j1 := hg56.cell s1 (by simp)
          have j2 := hg56.cell s2 (by simp)
          have j3 := hg56.cell c1 (by simp)
          have j4 := hg56.cell c2 (by simp)
          have zz : (Z == Z) = true := by simp
          have hsz6 := hg56.size
          clear e1 e2 f1 f2
          go_wp2_with (at_builtin; refine wpList_append_pair rfl (.tmp 73) (.tmp 78) rfl W5.heap.size (.slice xa D.length xc) D rfl (HO.out.grownNone (grown_trans hgd hg6)) (.slice ya p1 yc) (.slice za p2 zc) P (PK.out _ hg56).1 (PK.out _ hg56).2 rfl w6.heap.size rfl rfl (by omega) hsz6 ?_; intro v7 w7 ho7 hg7; obtain ⟨va7, vc7, rfl⟩ := ho7.shape; rw [show (D ++ [P]).length = D.length + 1 by simp] at ho7)
          have hg57 : W5.grownBy w7 none := grown_ownP' (grown_alloc hg56 _) ((HO.out.grownNone (grown_trans hgd hg6)).alloc _) (Nat.le_refl _) hg7
          go_roundw
          case rel =>
            first
              | exact ⟨m + 1, by omega, by go_num, by rw [HT2.out]; exact ho7, hg57⟩
              | ((repeat apply Exists.intro); refine ⟨⟨m + 1, by omega, ?_, by rw [HT2.out]; exact ho7, hg57⟩, rfl⟩; go_num)
          case measure => simp [intOf]; omega
        | false =>
          have hz' := of_decide_eq_false hz
          have HT2 : Hid (sideL (PS.take (m + 1)) B Z = D) := by
            show _ = _
            rw [HTH.out, if_neg hz']
          have hbz : (kbit P.1 B == Z) = false := by simpa using hz'
          generalize kbit P.1 B = Y at *
          clear hz hz' HTH
          go_wp2_with fail
          go_region_held3 (fun w' => w'.cell? ⟨pb, po + m * 2, none⟩ = some (.slice ya p1 yc) ∧ w'.cell? ⟨w4.heap.size + 1, 0, none⟩ = some (.int .i64 (B : Int)))
            (first | exact ⟨e1, e2⟩ | exact ⟨f1, f2⟩)
            (first | (go_at_call 25; refine (BT.out _ hgrd).mono ?_; rintro e w6 ⟨rfl, hg6⟩; have f1 := hg6.cell e1 (by simp); have f2 := hg6.cell e2 (by simp)))
          have hg56 := grown_trans hgrd hg6
          have j1 := hg56.cell s1 (by simp)
          clear e1 e2 f1 f2
          go_wp2_with fail
          go_roundw
          case rel =>
            first
              | exact ⟨m + 1, by omega, by go_num, by rw [HT2.out]; exact HO.out.grownNone (grown_trans hgd hg6), hg56⟩
              | ((repeat apply Exists.intro); refine ⟨⟨m + 1, by omega, ?_, by rw [HT2.out]; exact HO.out.grownNone (grown_trans hgd hg6), hg56⟩, rfl⟩; go_num)
          case measure => simp [intOf]; omega
      · obtain rfl : m = PS.length := by omega
        rw [List.take_length, ← HMINE.out] at hown
        rw [List.take_length, ← HMINE.out]
        have HSD : Hid (PairsIs wr (.slice xa MI.length xc) MI) := hown.list
        have hps : PF.steps.length = N + 1 := by
          obtain ⟨_, _, e, _⟩ := HSI5.out
          simp only [Value.slice.injEq] at e
          exact e.2.1.symm
        obtain ⟨da, dc, hrun, hdr⟩ := sslice_l (some ⟨sb, so, none⟩) sc PF.steps 1 (by omega)
        rw [hps, Nat.add_sub_cancel] at hrun hdr
        have hgwr := grown_trans hgw5 hgr
        have HQr : Hid (wr.heap[w4.heap.size]? = some (.cells #[.bool false, .slice (some ⟨sb, so, none⟩) (N + 1) sc, .slice qa n2 qc, .slice va n3 vc] 29)) := pair_old hgr HQ5.out
        have HDR : Hid (∀ W, StepsIs W (.slice (some ⟨sb, so, none⟩) (N + 1) sc) PF.steps → StepsIs W (.slice da N dc) PQ.steps) := fun W h => by
          have := hdr W h
          rw [HST.out, List.drop_one, List.tail_cons] at this
          exact this
        have hrun1 : ∀ W, (Instr.slice 25 (.slice (some ⟨sb, so, none⟩) (N + 1) sc) (some (.int .i64 1)) none none).run Tryd.prog W = .ok (.slice da N dc) W := fun W => hrun W
        clear hown hdr hps HBT HMINE s0 s1 s2 hrun
        go_wp2_with fail
        refine (HR.out _ _ hgwr HSD.out).mono ?_
        rintro e w6 ⟨ra, rc, rfl, hr6, hg6⟩
        have hg56 := grown_trans hgr hg6
        obtain ⟨⟨u0, u1, u2, u3⟩, _⟩ := quad_room hg6 HQr.out
        have hga6 := World.grownBy_alloc w6 (.cells #[.bool false, .slice (some ⟨sb, so, none⟩) (N + 1) sc, .slice qa n2 qc, .slice va n3 vc] 29) none
        have hb6 := heap_alloc_new w6 (.cells #[.bool false, .slice (some ⟨sb, so, none⟩) (N + 1) sc, .slice qa n2 qc, .slice va n3 vc] 29)
        obtain ⟨⟨r0, r1, r2, r3⟩, _, f1, _⟩ := quad_room (grown_refl _ none) hb6
        have u1' := hga6.cell u1 (by simp)
        have hga7 := World.grownBy_alloc w6 (.cells #[.bool false, .slice da N dc, .slice qa n2 qc, .slice va n3 vc] 29) none
        have hg57 := grown_trans hg56 hga7
        have HRT : Hid (SliceIs (w6.alloc (.cells #[.bool false, .slice da N dc, .slice qa n2 qc, .slice va n3 vc] 29)) (.slice ra 32 rc) R) := hr6.grown hga7
        have HPZ : Hid (ProofIs (w6.alloc (.cells #[.bool false, .slice da N dc, .slice qa n2 qc, .slice va n3 vc] 29)) (.agg #[.bool false, .slice da N dc, .slice qa n2 qc, .slice va n3 vc]) PQ) := by
          show ProofIs _ _ _
          rw [HPQ.out]
          exact ⟨_, _, _, rfl, HDR.out _ (HSI5.out.grown hg57), HPK5.out.grown hg57, HPV5.out.grown hg57⟩
        have hgw7 := grown_trans hgw5 hg57
        have HV7 : Hid (Calls Tryd.prog 15 #[.slice ra 32 rc, .slice ka K.length kc, .agg #[.bool false, .slice da N dc, .slice qa n2 qc, .slice va n3 vc]] (w6.alloc (.cells #[.bool false, .slice da N dc, .slice qa n2 qc, .slice va n3 vc] 29)) fun e w'' => ∃ xa xc, e = .returned (.tuple #[.agg #[.bool GB, .slice xa GV.length xc], .int .i64 0]) ∧ SliceIs w'' (.slice xa GV.length xc) GV ∧ (w6.alloc (.cells #[.bool false, .slice da N dc, .slice qa n2 qc, .slice va n3 vc] 29)).grownBy w'' none) := HV.out _ _ _ _ hgw7 HRT.out (HK5.out.grown hg57) HPZ.out
        clear hr6 hb6 HRT HPZ HV HPQ HST HDR HSI5 HPK5 HPV5
        go_wp2_with fail
        refine HV7.out.mono ?_
        rintro e w8 ⟨ea, ec, rfl, hx8, hg8⟩
        have hga8 := World.grownBy_alloc w8 (.cells #[.bool GB, .slice ea GV.length ec] 39) none
        have HX : Hid (SliceIs (w8.alloc (.cells #[.bool GB, .slice ea GV.length ec] 39)) (.slice ea GV.length ec) GV) := hx8.grown hga8
        obtain ⟨x0, x1, _, _⟩ := two_cells (heap_alloc_new w8 (.cells #[.bool GB, .slice ea GV.length ec] 39))
        have hg8a := grown_trans hg8 hga8
        have hg58 := grown_trans hg57 hg8a
        clear hx8
        go_wp2_with fail
        refine (HG.out _ _ _ (HL5.out.grown hg58) (HK5.out.grown hg58)).mono ?_
        rintro e w9 ⟨ga, gc, rfl, hy9, hg9⟩
        have hga9 := World.grownBy_alloc w9 (.cells #[.bool GB, .slice ga GV.length gc] 39) none
        obtain ⟨g0, g1, _, _⟩ := two_cells (heap_alloc_new w9 (.cells #[.bool GB, .slice ga GV.length gc] 39))
        have hg9a := grown_trans hg9 hga9
        have k0 := hg9a.cell x0 (by simp)
        have k1 := hg9a.cell x1 (by simp)
        have SM : Hid (Calls Tryd.prog 22 #[.slice ea GV.length ec, .slice ga GV.length gc] (w9.alloc (.cells #[.bool GB, .slice ga GV.length gc] 39)) fun e w' => e = .returned (.bool true) ∧ w' = w9.alloc (.cells #[.bool GB, .slice ga GV.length gc] 39)) := by
          have := same_any _ _ _ GV GV (HX.out.grown hg9a) (hy9.grown hga9)
          rw [decide_eq_true rfl] at this
          exact this
        have hgF := grown_trans hgw5 (grown_trans hg58 hg9a)
        have gb1 := gbb.out
        clear hy9 x0 x1 HX HG
        go_wp2_with fail
        refine SM.out.mono ?_
        rintro e w10 ⟨rfl, rfl⟩
        go_wp2
        go_ret
        exact ⟨by first | rfl | simp, hgF⟩
end Go.Proofs.YtedmhejnbapklaaDoor
