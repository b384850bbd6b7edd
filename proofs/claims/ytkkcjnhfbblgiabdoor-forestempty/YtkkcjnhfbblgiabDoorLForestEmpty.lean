/-
  The walk of canopykeep.ForestEmpty, over what the code must keep.
-/
import Derived.Test.YtkkcjnhfbblgiabDoorPart8
import Derived.Test.YtkkcjnhfbblgiabDoorPart2
import Derived.Test.YtkkcjnhfbblgiabDoorKSame
import Derived.Test.YtkkcjnhfbblgiabDoorPicked
import Derived.Test.YtkkcjnhfbblgiabDoorPart15
import Derived.Test.YtkkcjnhfbblgiabDoorPart3
namespace Go.Proofs.YtkkcjnhfbblgiabDoor
open Go.RowKit
theorem gone_writes (w : World) (vn vk : Value) (n k : List UInt8) (h1 : SliceIs w vn n) (h2 : SliceIs w vk k) :
    WritesIs (w.alloc (.cells #[vn, vk, .bool true, .slice none 0 0] 53)) (.slice (some ⟨w.heap.size, 0, none⟩) 1 1) [goneW n k] :=
  writes_one w vn vk (.slice none 0 0) (goneW n k) h1 h2 (sliceIs_nil _) 53
theorem roots_none : rootsF [] = [] := rfl
set_option maxRecDepth 100000 in
set_option maxHeartbeats 4000000 in
theorem forestEmpty_walk (hA : FApplyOK) (hR : FRootOK) (hT : TRootOK) (w : World) (v u : Value) (l : List Plc) (nb : List UInt8) (hv : PlacesIs w v l) (hu : SliceIs w u nb) (hl : FitsQ l) (hnb : nb.length ≤ 140737488355328) (ht : Tabs w) :
    Calls Tryd.prog 5 #[v, u] w fun e w' => e = .returned (.bool true) ∧ w.grownBy w' none := by
  obtain ⟨hF, hS⟩ := mkP_ok l 30
  have HFO : Hid (Calls Tryd.prog 16 #[v, .int .i64 30] w fun e w'' => ∃ v', e = .returned v' ∧ TensIs w'' v' (mkP l 30) ∧ w.grownBy w'' none) := kforest_any hA w v l 30 hv hl (by omega)
  generalize mkP l 30 = f at *
  obtain ⟨va, vc, rfl⟩ := hv.shape
  obtain ⟨ua, uc, rfl⟩ := hu.shape
  have hnil : Forest [] := ⟨by simp, fun t ht => by simp at ht, List.Pairwise.nil⟩
  have htn : Tree [] := ⟨by simp, fun t ht => by simp at ht, List.Pairwise.nil⟩
  have RT : Hid (∀ w' v', w.grownBy w' none → TensIs w' v' [] → Calls Tryd.prog 19 #[v'] w' fun e w'' => ∃ xa xc, e = .returned (.tuple #[.slice xa 32 xc, .int .i64 0]) ∧ SliceIs w'' (.slice xa 32 xc) (rootL []) ∧ w'.grownBy w'' none) := fun w' v' hg h => by
    refine (hR w' v' [] h hnil.fits (ht.grownNone hg)).mono ?_
    rintro e w'' ⟨x, rfl, hx, hg'⟩
    rw [frootF, if_pos ((forest_iff []).2 hnil)] at hx
    obtain ⟨xa, xc, rfl⟩ := hx.shape
    rw [rootL_len] at hx ⊢
    rw [(forest_iff []).2 hnil]
    exact ⟨xa, xc, rfl, hx, hg'⟩
  have TR : Hid (∀ w', w.grownBy w' none → Calls Tryd.prog 20 #[.slice none 0 0] w' fun e w'' => ∃ xa xc, e = .returned (.tuple #[.slice xa 32 xc, .int .i64 0]) ∧ SliceIs w'' (.slice xa 32 xc) (rootL []) ∧ w'.grownBy w'' none) := fun w' hg => by
    have h1 := hT w' (.slice none 0 0) [] (pairsIs_nil _) htn.fits (ht.grownNone hg)
    have h2 : pairsFaultF [] = 0 := (tree_iff _).2 htn
    rw [rootF, if_pos h2, h2] at h1
    refine h1.mono ?_
    rintro e w'' ⟨x, rfl, hx, hg'⟩
    obtain ⟨xa, xc, rfl⟩ := hx.shape
    rw [rootL_len] at hx ⊢
    exact ⟨xa, xc, rfl, hx, hg'⟩
  generalize rootL [] = RR at *
  have HA : Hid FApplyOK := hA
  have HF0 : Hid (Forest f) := hF
  clear hv hl hA hR hS hF ht hnil htn hT hu
  go_enter Tryd.func5, Tryd.ntmps5
  go_wp2_with fail
  refine HFO.out.mono ?_
  rintro e w0 ⟨v0, rfl, h0, hg0⟩
  go_wp2_with fail
  go_loopw [5] (fun cv wr => ∃ F : FL, Forest F ∧ TensIs wr cv F ∧ w.grownBy wr none) (fun cv _ => sliceLen cv)
  case atStart => exact ⟨f, HF0.out, h0, hg0⟩
  case round =>
    obtain ⟨F, hF, hc, hg⟩ := hrel
    obtain ⟨fa, fc, rfl⟩ := hc.shape
    have HF : Hid (Forest F) := hF
    have HC : Hid (TensIs wr (.slice fa F.length fc) F) := hc
    have hroom := hF.room
    clear hF hc h0
    by_cases hz : 0 < F.length
    · have i1 : (0 : Int) < (F.length : Int) := by omega
      go_wp2_with fail
      refine (picked_any (nb.length : Int) (F.length : Int) wr (by omega) (by omega) (by omega) (by omega)).mono ?_
      rintro e w2 ⟨k, rfl, hk, rfl⟩
      have hk2 : k < F.length := by omega
      obtain ⟨b, o, rfl, vn, vp, c1, c2, s1, s2⟩ := HC.out.at k hk2
      have HCF : Hid (∀ j, Forest (cutT F (F.getD k ([], [])).1 (F.getD k ([], [])).2 j)) := cut_forest HF.out k hk2
      have HCL : Hid (∀ j, (cutT F (F.getD k ([], [])).1 (F.getD k ([], [])).2 j).length = if j < (F.getD k ([], [])).2.length then F.length else F.length - 1) := cut_len HF.out k hk2
      have HCA : Hid (∀ j, j < (F.getD k ([], [])).2.length → appliedE (cutT F (F.getD k ([], [])).1 (F.getD k ([], [])).2 j) [goneW (F.getD k ([], [])).1 ((F.getD k ([], [])).2.getD j ([], [])).1] = 0 ∧ appliedF (cutT F (F.getD k ([], [])).1 (F.getD k ([], [])).2 j) [goneW (F.getD k ([], [])).1 ((F.getD k ([], [])).2.getD j ([], [])).1] = cutT F (F.getD k ([], [])).1 (F.getD k ([], [])).2 (j + 1)) := cut_apply HF.out k hk2
      have HC0 : Hid (cutT F (F.getD k ([], [])).1 (F.getD k ([], [])).2 0 = F) := cut_zero HF.out k hk2
      have hten : (1 ≤ (F.getD k ([], [])).1.length ∧ (F.getD k ([], [])).1.length ≤ 8) ∧ Tree (F.getD k ([], [])).2 := by
        have := HF.out.tens F[k] (List.getElem_mem hk2)
        rw [show F[k] = F.getD k ([], []) by simp [hk2]] at this
        exact ⟨this.1, this.2.2⟩
      generalize (F.getD k ([], [])).1 = N at *
      generalize (F.getD k ([], [])).2 = ps at *
      have hpr := hten.2.room
      have HTE : Hid (Tree ps) := hten.2
      have hN := hten.1
      clear hten
      obtain ⟨na, nc, rfl⟩ := s1.shape
      obtain ⟨pa, pc, rfl⟩ := s2.shape
      obtain ⟨W1, HW1, hgA1, B1⟩ := alloc_named w2 (.cells #[.slice na N.length nc, .slice pa ps.length pc] 48)
      have HN1 : Hid (SliceIs W1 (.slice na N.length nc) N) := s1.grown hgA1
      have HP1 : Hid (PairsIs W1 (.slice pa ps.length pc) ps) := s2.grown hgA1
      have HC1 : Hid (TensIs W1 (.slice (some ⟨b, o, none⟩) F.length fc) F) := HC.out.grown hgA1
      have hg1 := grown_trans hg hgA1
      clear s1 s2
      go_upto_region 4 with fail
      rw [← HW1.out]
      clear c1 c2 hk hgA1
      go_wp2_with fail
      go_loopw [5, 8] (fun cv i wr => ∃ j : Nat, j ≤ ps.length ∧ i = .int .i64 (j : Int) ∧ TensIs wr cv (cutT F N ps j) ∧ W1.grownBy wr none) (fun _ i _ => ps.length - (intOf i).toNat)
      case atStart => exact ⟨0, by omega, rfl, by rw [HC0.out]; exact HC1.out, grown_refl _ _⟩
      case round =>
        obtain ⟨j, hj, rfl, hc, hgr⟩ := hrel
        obtain ⟨ca, cc, rfl⟩ := hc.shape
        obtain ⟨d0, d1, _, _⟩ := pair_room hgr B1.out
        by_cases hlt : j < ps.length
        · have i2 : (j : Int) < (ps.length : Int) := by omega
          have hcl := HCL.out j
          rw [if_pos hlt] at hcl
          obtain ⟨e1, e2⟩ := HCA.out j hlt
          obtain ⟨pb, po, rfl, hat⟩ := HP1.out.at j hlt
          obtain ⟨vk, vv, c1, c2, s1, s2⟩ := hat.grown hgr
          have hkl := HTE.out.pairs ps[j] (List.getElem_mem hlt)
          rw [show ps[j] = ps.getD j ([], []) by simp [hlt]] at hkl
          generalize (ps.getD j ([], [])) = P at *
          obtain ⟨ka, kc, rfl⟩ := s1.shape
          have hAP : ∀ w' u', wr.grownBy w' none → WritesIs w' u' [goneW N P.1] → Calls Tryd.prog 18 #[.slice ca (cutT F N ps j).length cc, u'] w' fun e w'' => ∃ x, e = .returned (.tuple #[x, .int .i64 0]) ∧ TensIs w'' x (cutT F N ps (j + 1)) ∧ w'.grownBy w'' none := fun w' u' hg' hu' => by
            have := HA.out w' _ u' _ _ (hc.grown hg') hu' (HCF.out j).fits ⟨by simp, fun i hi => by
              match i, hi with
              | 0, _ => exact ⟨by simp [goneW]; omega, by simp [goneW]; omega, by simp [goneW]⟩⟩
            rw [e1, e2] at this
            exact this
          rw [hcl] at hAP ⊢
          have AP : Hid (∀ w' u', wr.grownBy w' none → WritesIs w' u' [goneW N P.1] → Calls Tryd.prog 18 #[.slice ca F.length cc, u'] w' fun e w'' => ∃ x, e = .returned (.tuple #[x, .int .i64 0]) ∧ TensIs w'' x (cutT F N ps (j + 1)) ∧ w'.grownBy w'' none) := hAP
          have SN : Hid (SliceIs wr (.slice na N.length nc) N) := HN1.out.grown hgr
          have SK : Hid (SliceIs wr (.slice ka P.1.length kc) P.1) := s1
          have hgw := grown_trans hg1 hgr
          clear hAP hcl e1 e2 hat s1 s2 hkl hc
          go_upto_region 10 with fail
          go_cut [9, 10] (fun s9 s10 wx => s10 = .int .i64 0 ∧ TensIs wx s9 (cutT F N ps (j + 1)) ∧ wr.grownBy wx none)
          case first =>
            have hgd := grown_drew (grown_refl wr none)
            have hga : wr.grownBy (wr.drew.alloc (.cells #[.slice na N.length nc, .slice ka P.1.length kc, .bool true, .slice none 0 0] 53)) none := grown_trans hgd (World.grownBy_alloc _ _ _)
            have HWR : Hid (WritesIs (wr.drew.alloc (.cells #[.slice na N.length nc, .slice ka P.1.length kc, .bool true, .slice none 0 0] 53)) (.slice (some ⟨wr.heap.size, 0, none⟩) 1 1) [goneW N P.1]) := gone_writes wr.drew _ _ _ _ (SN.out.grown hgd) (SK.out.grown hgd)
            go_region_with (go_at_call 18; refine (AP.out _ _ hga HWR.out).mono ?_; rintro e w3 ⟨x3, rfl, h3, hg3⟩; have hgw3 := grown_trans hga hg3)
            all_goals (go_wp2_with fail; go_meet; case rel => exact ⟨rfl, h3, hgw3⟩)
          case rest =>
            obtain ⟨rfl, h3, hg3⟩ := hcut
            have hgw3 := grown_trans hgr hg3
            obtain ⟨a3, q3, rfl⟩ := h3.shape
            go_wp2_with fail
            go_roundw
            case rel => exact ⟨j + 1, by omega, by go_num, h3, hgw3⟩
            case measure => simp [intOf]; omega
        · obtain rfl : j = ps.length := by omega
          have hcl := HCL.out ps.length
          rw [if_neg (by omega)] at hcl
          have HCJ : Hid (TensIs wr (.slice ca (cutT F N ps ps.length).length cc) (cutT F N ps ps.length)) := hc
          have HCK := HCF.out ps.length
          have HCK : Hid (Forest (cutT F N ps ps.length)) := HCK
          have hgw := grown_trans hg1 hgr
          clear hc
          generalize cutT F N ps ps.length = X at *
          obtain ⟨q, hq⟩ : ∃ q, F.length = q + 1 := ⟨F.length - 1, by omega⟩
          have HCX : Hid (X.length = q) := by show _ = _; omega
          rw [HCX.out]
          rw [HCX.out] at HCJ
          have HFL : Hid (F.length = q + 1) := hq
          clear hcl
          go_wp2_with fail
          go_roundw
          case rel => exact ⟨X, HCK.out, HCJ.out, hgw⟩
          case measure => simp [sliceLen]; omega
    · have hF0 : F = [] := List.eq_nil_of_length_eq_zero (by omega)
      subst hF0
      clear hz hroom
      go_wp2_with fail
      refine (RT.out _ _ hg HC.out).mono ?_
      rintro e w1 ⟨ra, rc, rfl, hr1, hg1⟩
      have HR1 : Hid (SliceIs w1 (.slice ra 32 rc) RR) := hr1
      have hg01 := grown_trans hg hg1
      clear hr1
      go_wp2_with fail
      refine (TR.out _ hg01).mono ?_
      rintro e w2 ⟨sa, sc, rfl, hr2, hg2⟩
      have hg02 := grown_trans hg01 hg2
      have SM : Hid (Calls Tryd.prog 21 #[.slice ra 32 rc, .slice sa 32 sc] w2 fun e w' => e = .returned (.bool true) ∧ w' = w2) := by
        have := same_any w2 _ _ RR RR (HR1.out.grown hg2) hr2
        rw [decide_eq_true rfl] at this
        exact this
      clear hr2
      go_wp2_with fail
      refine SM.out.mono ?_
      rintro e w3 ⟨rfl, rfl⟩
      go_wp2
      go_ret
      exact ⟨rfl, hg02⟩
end Go.Proofs.YtkkcjnhfbblgiabDoor
