/-
  The walk of the document's answer to P4.3: Verified.
-/
import Derived.Test.YtkkcjnhfbblgiabDoorRUp
import Derived.Test.YtkkcjnhfbblgiabDoorPart13
import Derived.Test.YtkkcjnhfbblgiabDoorRSameB
import Derived.Test.YtkkcjnhfbblgiabDoorRJoined
import Derived.Test.YtkkcjnhfbblgiabDoorPart4
namespace Go.Proofs.YtkkcjnhfbblgiabDoor
open Go.RowKit
set_option maxRecDepth 100000 in
set_option maxHeartbeats 2000000 in
theorem verified_any (w : World) (r u v : Value) (root k : List UInt8) (p : Prf) (hr : SliceIs w r root) (hu : SliceIs w u k) (hv : ProofIs w v p) (hf : PrfFits p) :
    Calls Tryd.prog 38 #[r, u, v] w fun e w' => ∃ x, e = .returned (.tuple #[.agg #[.bool (verB root k p), x], .int .i64 (verE root k p)]) ∧ SliceIs w' x (verV root k p) ∧ w.grownBy w' none := by
  have hvv := hv
  obtain ⟨vs, vk, vv, rfl, hs, h1, h2⟩ := hv
  obtain ⟨ra, rc, rfl⟩ := hr.shape
  obtain ⟨ua, uc, rfl⟩ := hu.shape
  obtain ⟨sa, sc, rfl⟩ := hs.shape
  obtain ⟨ka, kc, rfl⟩ := h1.shape
  obtain ⟨va, vc, rfl⟩ := h2.shape
  obtain ⟨W1, hW1⟩ : ∃ W1 : World, W1 = (w.alloc (.cells #[.bool p.empty, .slice sa p.steps.length sc, .slice ka p.pair.1.length kc, .slice va p.pair.2.length vc] 29)).alloc (.cells #[.bool false, .slice none 0 0] 38) := ⟨_, rfl⟩
  have hgW : w.grownBy W1 none := by rw [hW1]; exact grown_alloc (World.grownBy_alloc _ _ _) _
  have HW1 : Hid (W1 = (w.alloc (.cells #[.bool p.empty, .slice sa p.steps.length sc, .slice ka p.pair.1.length kc, .slice va p.pair.2.length vc] 29)).alloc (.cells #[.bool false, .slice none 0 0] 38)) := hW1
  have hsz : W1.heap.size = w.heap.size + 2 := by rw [hW1]; simp
  have bP : W1.heap[w.heap.size]? = some (.cells #[.bool p.empty, .slice sa p.steps.length sc, .slice ka p.pair.1.length kc, .slice va p.pair.2.length vc] 29) := by
    rw [hW1]; exact pair_old (World.grownBy_alloc _ _ _) (heap_alloc_new w _)
  have C0 : Hid (W1.heap[w.heap.size + 1]? = some (.cells #[.bool false, .slice none 0 0] 38)) := by
    have := heap_alloc_new (w.alloc (.cells #[.bool p.empty, .slice sa p.steps.length sc, .slice ka p.pair.1.length kc, .slice va p.pair.2.length vc] 29)) (.cells #[.bool false, .slice none 0 0] 38)
    rw [World.size_alloc] at this
    rw [hW1]; exact this
  obtain ⟨⟨a0, a1, a2, a3⟩, _⟩ := quad_room (grown_refl W1 none) bP
  by_cases h32 : root.length = 32
  · have PF : Hid (Calls Tryd.prog 64 #[.slice ua k.length uc, .agg #[.bool p.empty, .slice sa p.steps.length sc, .slice ka p.pair.1.length kc, .slice va p.pair.2.length vc]] W1 fun e w'' => e = .returned (.int .i64 (proofE k p)) ∧ W1.grownBy w'' none) := proofFault_any W1 _ _ k p (hu.grown hgW) (hvv.grown hgW) hf
    by_cases hE : proofE k p = 0
    · obtain ⟨hk0, hmay⟩ := proofE_ok hE
      rw [hE] at PF
      have HR : Hid (∀ w', W1.grownBy w' none → SliceIs w' (.slice ra root.length rc) root) := fun w' hg => (hr.grown hgW).grown hg
      have HK : Hid (∀ w', W1.grownBy w' none → SliceIs w' (.slice ua k.length uc) k) := fun w' hg => (hu.grown hgW).grown hg
      have HQ : Hid (∀ w', W1.grownBy w' none → SliceIs w' (.slice ka p.pair.1.length kc) p.pair.1) := fun w' hg => (h1.grown hgW).grown hg
      have HV : Hid (∀ w', W1.grownBy w' none → SliceIs w' (.slice va p.pair.2.length vc) p.pair.2) := fun w' hg => (h2.grown hgW).grown hg
      have DU : Hid (p.empty = false → ∀ w', W1.grownBy w' none → Calls Tryd.prog 65 #[.agg #[.bool p.empty, .slice sa p.steps.length sc, .slice ka p.pair.1.length kc, .slice va p.pair.2.length vc]] w' fun e w'' => ∃ x, e = .returned x ∧ SliceIs w'' x (upL p.steps p.pair) ∧ w'.grownBy w'' none) := fun he w' hg => by
        rcases hmay with ⟨h, _⟩ | ⟨_, hp, hst⟩
        · rw [he] at h; cases h
        · exact digestUp_any w' _ p ((hvv.grown hgW).grown hg) ((pairFault_iff _).1 hp) (fun i hi => ⟨(hst i hi).1, (hst i hi).2.1⟩) (by have := hf.1; omega)
      have E8 : Hid (rootP p ≠ root → verE root k p = 8 ∧ verB root k p = false ∧ verV root k p = []) := fun h => ver_proof h32 hE h
      have E0 : Hid (rootP p = root → verE root k p = 0 ∧ verB root k p = foundF k p ∧ verV root k p = if foundF k p = true then p.pair.2 else []) := fun h => ver_ok h32 hE h
      have hv2 := hf.2.2.2
      have EF : Hid (foundF k p = (!p.empty && decide (p.pair.1 = k))) := by
        show _ = _
        unfold foundF
        by_cases h : p.pair.1 = k <;> simp [h]
      generalize verE root k p = VE at *
      generalize verB root k p = VB at *
      generalize verV root k p = VV at *
      generalize hFF : foundF k p = FF at *
      clear hFF
      have hRP : p.empty = true → rootP p = sumF [0] := fun h => by unfold rootP; rw [if_pos h]
      have hRQ : p.empty = false → rootP p = upL p.steps p.pair := fun h => by unfold rootP; rw [if_neg (by rw [h]; decide)]
      generalize rootP p = RP at *
      generalize upL p.steps p.pair = UP at *
      obtain ⟨S0, hS0⟩ : ∃ S0, sumF [0] = S0 := ⟨_, rfl⟩
      rw [hS0] at hRP
      cases he : p.empty with
      | true =>
        have hD := hRP he
        rw [he] at EF a0 PF HW1
        have HD : Hid (RP = S0) := hD
        have ND : Hid (∀ w' : World, Calls Tryd.prog 39 #[] w' fun e w'' => ∃ x, e = .returned x ∧ SliceIs w'' x RP ∧ w'.grownBy w'' none) := fun w' => by
          rw [hD, ← hS0]; exact noneDigest_any w'
        generalize p.steps.length = ns at *
        generalize p.pair.1.length = nk at *
        generalize p.pair.2.length = nv at *
        have SB : Hid (∀ (w' : World) (x : Value), W1.grownBy w' none → SliceIs w' x RP → Calls Tryd.prog 55 #[x, .slice ra root.length rc] w' fun e w'' => e = .returned (.bool (decide (RP = root))) ∧ w'' = w') := fun w' x hg hx => rsame_any w' _ _ _ _ hx (HR.out w' hg)
        generalize root.length = nr at *
        clear hW1 bP hs h1 h2 hvv hr hu hf hD hRP hRQ HR HK HQ HV DU hmay hS0
        subst h32
        go_enter Tryd.func38, Tryd.ntmps38
        go_wp2_with fail
        rw [← HW1.out]
        refine PF.out.mono ?_
        rintro e w1 ⟨rfl, hg1⟩
        go_wp2_with fail
        refine (ND.out _).mono ?_
        rintro e w2 ⟨x, rfl, hx, hg2⟩
        have hg12 := grown_trans hg1 hg2
        have b0 := hg12.cell a0 (by simp)
        have CS : Hid (Calls Tryd.prog 55 #[x, .slice ra 32 rc] w2 fun e w'' => e = .returned (.bool (decide (RP = root))) ∧ w'' = w2) := SB.out _ _ hg12 hx
        clear hx ND
        go_wp2_with fail
        refine CS.out.mono ?_
        rintro e w3 ⟨rfl, rfl⟩
        obtain ⟨cA, cB, fA, fB⟩ := pair_room hg12 C0.out
        obtain ⟨cC, cD⟩ := pair_set hg12 C0.out (.bool false) (.slice none 0 0)
        by_cases hq : RP = root
        · rw [decide_eq_true hq]
          obtain ⟨e1, e2, e3⟩ := E0.out hq
          have hFF : FF = false := by rw [EF.out]; rfl
          rw [hFF] at e2 e3
          rw [if_neg (by decide)] at e3
          subst e1 e2 e3
          clear E0 E8 EF hFF hq CS SB
          go_wp2
          refine bodyPost_ret (v := .tuple #[.agg #[.bool false, .slice none 0 0], .int .i64 0]) (by simp [results, Tryd.results38, go_sem, cC, cD]) rfl ?_
          exact ⟨_, rfl, sliceIs_nil _, grown_setNew (grown_setNew (grown_trans hgW hg12) _ (by omega) _ _) _ (by omega) _ _⟩
        · rw [decide_eq_false hq]
          obtain ⟨e1, e2, e3⟩ := E8.out hq
          subst e1 e2 e3
          clear E0 E8 EF hq CS SB
          go_wp2
          refine bodyPost_ret (v := .tuple #[.agg #[.bool false, .slice none 0 0], .int .i64 8]) (by simp [results, Tryd.results38, go_sem, cC, cD]) rfl ?_
          exact ⟨_, rfl, sliceIs_nil _, grown_setNew (grown_setNew (grown_trans hgW hg12) _ (by omega) _ _) _ (by omega) _ _⟩
      | false =>
        have hD := hRQ he
        have DV := DU.out he
        rw [he] at EF a0 PF HW1 DV
        rw [← hD] at DV
        have DW : Hid (∀ w', W1.grownBy w' none → Calls Tryd.prog 65 #[.agg #[.bool false, .slice sa p.steps.length sc, .slice ka p.pair.1.length kc, .slice va p.pair.2.length vc]] w' fun e w'' => ∃ x, e = .returned x ∧ SliceIs w'' x RP ∧ w'.grownBy w'' none) := DV
        have ND : Hid (∀ w' : World, Calls Tryd.prog 39 #[] w' fun e w'' => ∃ x, e = .returned x ∧ SliceIs w'' x S0 ∧ w'.grownBy w'' none) := fun w' => by
          rw [← hS0]; exact noneDigest_any w'
        have SB : Hid (∀ (w' : World) (x : Value), W1.grownBy w' none → SliceIs w' x RP → Calls Tryd.prog 55 #[x, .slice ra root.length rc] w' fun e w'' => e = .returned (.bool (decide (RP = root))) ∧ w'' = w') := fun w' x hg hx => rsame_any w' _ _ _ _ hx (HR.out w' hg)
        have SK : Hid (∀ (w' : World), W1.grownBy w' none → Calls Tryd.prog 55 #[.slice ka p.pair.1.length kc, .slice ua k.length uc] w' fun e w'' => e = .returned (.bool (decide (p.pair.1 = k))) ∧ w'' = w') := fun w' hg => rsame_any w' _ _ _ _ (HQ.out w' hg) (HK.out w' hg)
        have JO : Hid (∀ (w' : World), W1.grownBy w' none → Calls Tryd.prog 46 #[.slice va p.pair.2.length vc, .slice none 0 0] w' fun e w'' => ∃ v', e = .returned v' ∧ Own w'.heap.size w'' v' p.pair.2 ∧ w'.grownBy w'' none) := fun w' hg => by
          have := joined_gen w' _ (.slice none 0 0) p.pair.2 [] (HV.out w' hg) (sliceIs_nil _) (by simp; omega)
          rw [List.append_nil] at this
          exact this
        generalize p.steps.length = ns at *
        generalize p.pair.1.length = nk at *
        generalize k.length = nu at *
        generalize root.length = nr at *
        clear hW1 bP hs h1 h2 hvv hr hu hf hD hRP hRQ HR HK HQ HV DU DV hmay hS0
        subst h32
        go_enter Tryd.func38, Tryd.ntmps38
        go_wp2_with fail
        rw [← HW1.out]
        refine PF.out.mono ?_
        rintro e w1 ⟨rfl, hg1⟩
        go_wp2_with fail
        refine (ND.out _).mono ?_
        rintro e w2 ⟨x0, rfl, _, hg2⟩
        have hg12 := grown_trans hg1 hg2
        have b0 := hg12.cell a0 (by simp)
        have b1 := hg12.cell a1 (by simp)
        have b2 := hg12.cell a2 (by simp)
        have b3 := hg12.cell a3 (by simp)
        clear ND
        go_wp2_with fail
        refine (DW.out _ hg12).mono ?_
        rintro e w3 ⟨x, rfl, hx, hg3⟩
        have hg13 := grown_trans hg12 hg3
        clear b0 b1 b2 b3 hg12
        have b0 := hg13.cell a0 (by simp)
        have b2 := hg13.cell a2 (by simp)
        have b3 := hg13.cell a3 (by simp)
        have CS : Hid (Calls Tryd.prog 55 #[x, .slice ra 32 rc] w3 fun e w'' => e = .returned (.bool (decide (RP = root))) ∧ w'' = w3) := SB.out _ _ hg13 hx
        clear hx DW
        go_wp2_with fail
        refine CS.out.mono ?_
        rintro e w4 ⟨rfl, rfl⟩
        by_cases hq : RP = root
        · rw [decide_eq_true hq]
          obtain ⟨e1, e2, e3⟩ := E0.out hq
          rw [EF.out] at e2 e3
          have HE : Hid (VE = 0 ∧ VB = (!false && decide (p.pair.1 = k)) ∧ VV = if (!false && decide (p.pair.1 = k)) = true then p.pair.2 else []) := ⟨e1, e2, e3⟩
          clear e1 e2 e3 E0 E8 EF hq CS SB
          go_wp2_with fail
          refine (SK.out _ hg13).mono ?_
          rintro e w5 ⟨rfl, rfl⟩
          by_cases hkk : p.pair.1 = k
          · rw [decide_eq_true hkk]
            obtain ⟨e1, e2, e3⟩ := HE.out
            rw [decide_eq_true hkk] at e2 e3
            rw [if_pos (by decide)] at e3
            replace e2 : VB = true := e2
            subst e1 e2 e3
            clear HE hkk SK
            go_wp2_with fail
            refine (JO.out _ hg13).mono ?_
            rintro e w6 ⟨v6, rfl, ho6, hg6⟩
            obtain ⟨a6, cap6, rfl⟩ := ho6.shape
            have hg16 := grown_trans hg13 hg6
            obtain ⟨cA, cB, fA, fB⟩ := pair_room hg16 C0.out
            obtain ⟨cC, cD⟩ := pair_set hg16 C0.out (.bool true) (.slice a6 p.pair.2.length cap6)
            have hs3 := hg13.size
            go_wp2
            refine bodyPost_ret (v := .tuple #[.agg #[.bool true, .slice a6 p.pair.2.length cap6], .int .i64 0]) (by simp [results, Tryd.results38, go_sem, cC, cD]) rfl ?_
            exact ⟨_, rfl, ((ho6.setOther _ _ _ (by omega)).setOther _ _ _ (by omega)).slice, grown_setNew (grown_setNew (grown_trans hgW hg16) _ (by omega) _ _) _ (by omega) _ _⟩
          · rw [decide_eq_false hkk]
            obtain ⟨e1, e2, e3⟩ := HE.out
            rw [decide_eq_false hkk] at e2 e3
            rw [if_neg (by decide)] at e3
            replace e2 : VB = false := e2
            subst e1 e2 e3
            clear HE hkk SK JO
            obtain ⟨cA, cB, fA, fB⟩ := pair_room hg13 C0.out
            obtain ⟨cC, cD⟩ := pair_set hg13 C0.out (.bool false) (.slice none 0 0)
            go_wp2
            refine bodyPost_ret (v := .tuple #[.agg #[.bool false, .slice none 0 0], .int .i64 0]) (by simp [results, Tryd.results38, go_sem, cC, cD]) rfl ?_
            exact ⟨_, rfl, sliceIs_nil _, grown_setNew (grown_setNew (grown_trans hgW hg13) _ (by omega) _ _) _ (by omega) _ _⟩
        · rw [decide_eq_false hq]
          obtain ⟨e1, e2, e3⟩ := E8.out hq
          subst e1 e2 e3
          clear E0 E8 EF hq CS SB SK JO
          obtain ⟨cA, cB, fA, fB⟩ := pair_room hg13 C0.out
          obtain ⟨cC, cD⟩ := pair_set hg13 C0.out (.bool false) (.slice none 0 0)
          go_wp2
          refine bodyPost_ret (v := .tuple #[.agg #[.bool false, .slice none 0 0], .int .i64 8]) (by simp [results, Tryd.results38, go_sem, cC, cD]) rfl ?_
          exact ⟨_, rfl, sliceIs_nil _, grown_setNew (grown_setNew (grown_trans hgW hg13) _ (by omega) _ _) _ (by omega) _ _⟩
    · obtain ⟨e1, e2, e3⟩ := ver_form (k := k) (p := p) h32 hE
      rw [e1, e2, e3]
      generalize proofE k p = PE at *
      generalize p.steps.length = ns at *
      generalize p.pair.1.length = nk at *
      generalize p.pair.2.length = nv at *
      generalize p.empty = pe at *
      generalize root.length = nr at *
      have hz : (PE != 0) = true := by simpa using hE
      clear hW1 bP hs h1 h2 hvv hr hu hf e1 e2 e3
      subst h32
      go_enter Tryd.func38, Tryd.ntmps38
      go_wp2_with fail
      rw [← HW1.out]
      refine PF.out.mono ?_
      rintro e w1 ⟨rfl, hg1⟩
      obtain ⟨cA, cB, fA, fB⟩ := pair_room hg1 C0.out
      obtain ⟨cC, cD⟩ := pair_set hg1 C0.out (.bool false) (.slice none 0 0)
      go_wp2
      refine bodyPost_ret (v := .tuple #[.agg #[.bool false, .slice none 0 0], .int .i64 PE]) (by simp [results, Tryd.results38, go_sem, cC, cD]) rfl ?_
      exact ⟨_, rfl, sliceIs_nil _, grown_setNew (grown_setNew (grown_trans hgW hg1) _ (by omega) _ _) _ (by omega) _ _⟩
  · obtain ⟨e1, e2, e3⟩ := ver_size (k := k) (p := p) h32
    rw [e1, e2, e3]
    generalize p.steps.length = ns at *
    generalize p.pair.1.length = nk at *
    generalize p.pair.2.length = nv at *
    generalize p.empty = pe at *
    generalize root.length = nr at *
    have hz : ((nr : Int) != 32) = true := by simp; omega
    clear hW1 bP hs h1 h2 hvv hr hu hf e1 e2 e3
    obtain ⟨cA, cB, fA, fB⟩ := pair_room (grown_refl W1 none) C0.out
    obtain ⟨cC, cD⟩ := pair_set (grown_refl W1 none) C0.out (.bool false) (.slice none 0 0)
    go_enter Tryd.func38, Tryd.ntmps38
    go_upto_region 2 with fail
    rw [← HW1.out]
    go_wp2
    refine bodyPost_ret (v := .tuple #[.agg #[.bool false, .slice none 0 0], .int .i64 1]) (by simp [results, Tryd.results38, go_sem, cC, cD]) rfl ?_
    exact ⟨_, rfl, sliceIs_nil _, grown_setNew (grown_setNew hgW _ (by omega) _ _) _ (by omega) _ _⟩
end Go.Proofs.YtkkcjnhfbblgiabDoor
