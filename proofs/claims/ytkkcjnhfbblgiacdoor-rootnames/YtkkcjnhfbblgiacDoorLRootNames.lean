/-
  The walk of canopykeep.RootNames, over what the code must keep.
-/
import Derived.Test.YtkkcjnhfbblgiacDoorLFP
import Derived.Test.YtkkcjnhfbblgiacDoorKSame
import Derived.Test.YtkkcjnhfbblgiacDoorRootMem
import Derived.Test.YtkkcjnhfbblgiacDoorTRootP
namespace Go.Proofs.YtkkcjnhfbblgiacDoor
open Go.RowKit
set_option maxRecDepth 100000 in
set_option maxHeartbeats 2000000 in
theorem rootNames_walk (hA : FApplyOK) (hR : FRootOK) (w : World) (v : Value) (l : List Plc) (hv : PlacesIs w v l) (hl : FitsQ l) (ht : Tabs w) :
    Calls Tryd.prog 5 #[v] w fun e w' => e = .returned (.bool true) ∧ w.grownBy w' none := by
  obtain ⟨hF, hS⟩ := mkP_ok l 20
  have HFO : Hid (Calls Tryd.prog 6 #[v, .int .i64 20] w fun e w'' => ∃ v', e = .returned v' ∧ TensIs w'' v' (mkP l 20) ∧ w.grownBy w'' none) := kforest_any hA w v l 20 hv hl (by omega)
  generalize mkP l 20 = f at *
  obtain ⟨va, vc, rfl⟩ := hv.shape
  have RT : Hid (∀ w' v', w.grownBy w' none → TensIs w' v' f → Calls Tryd.prog 8 #[v'] w' fun e w'' => ∃ xa xc, e = .returned (.tuple #[.slice xa 32 xc, .int .i64 0]) ∧ SliceIs w'' (.slice xa 32 xc) (rootL (rootsF f)) ∧ w'.grownBy w'' none) := fun w' v' hg h => FRootOK.of hR w' v' f h hF (ht.grownNone hg)
  have TR : Hid (∀ w' x, w.grownBy w' none → PairsIs w' x (rootsF f) → Calls Tryd.prog 15 #[x] w' fun e w'' => ∃ y, e = .returned (.tuple #[y, .int .i64 0]) ∧ NewD w' w'' y (rootL (rootsF f)) ∧ w'.grownBy w'' none) := fun w' x hg hx => troot_new w' x _ hx (roots_tree hF) (ht.grownNone hg)
  have HF : Hid (Forest f) := hF
  have HTB : Hid (Tabs w) := ht
  have hroom := hF.room
  clear hv hl hA hR hS hF ht
  go_enter Tryd.func5, Tryd.ntmps5
  go_wp2_with fail
  refine HFO.out.mono ?_
  rintro e w0 ⟨v0, rfl, h0, hg0⟩
  obtain ⟨fa, fc, rfl⟩ := h0.shape
  have HT0 : Hid (TensIs w0 (.slice fa f.length fc) f) := h0
  clear h0
  go_wp2_with fail
  go_loopw [4, 5] (fun cv i wr => ∃ m : Nat, m ≤ f.length ∧ i = .int .i64 (m : Int) ∧ OwnR w0.heap.size wr cv (rootsF (f.take m)) ∧ w0.grownBy wr none) (fun _ i _ => f.length - (intOf i).toNat)
  case atStart => exact ⟨0, by omega, rfl, ownR_nil _ _, grown_refl _ _⟩
  case round =>
    obtain ⟨m, hm, rfl, hown, hg⟩ := hrel
    obtain ⟨ca, ccap, rfl⟩ := hown.shape
    by_cases hlt : m < f.length
    · have i1 : (m : Int) < (f.length : Int) := by omega
      obtain ⟨b, o, rfl, hat⟩ := HT0.out.at m hlt
      have hat0 := hat
      obtain ⟨vn, vp, c1, c2, s1, s2⟩ := hat.grown hg
      obtain ⟨vn', vp', c1', c2', s1', s2'⟩ := hat0
      have hvn : vn' = vn := by
        have := hg.cell c1' (by simp)
        rw [this] at c1
        exact Option.some.inj c1
      subst hvn
      have HT : Hid (rootsF (f.take (m + 1)) = rootsF (f.take m) ++ [((f.getD m ([], [])).1, rootL (f.getD m ([], [])).2)]) := roots_take f m hlt
      have htr : Tree (f.getD m ([], [])).2 := by
        have := (HF.out.tens f[m] (List.getElem_mem hlt)).2.2
        rwa [show f[m] = f.getD m ([], []) by simp [hlt]] at this
      have hTl : (rootsF (f.take m)).length = m := by rw [roots_len]; simp; omega
      generalize f.getD m ([], []) = P at *
      generalize rootsF (f.take m) = T at *
      rw [hTl] at hown ⊢
      have HO : Hid (OwnR w0.heap.size wr (.slice ca m ccap) T) := hown
      obtain ⟨na, nc, rfl⟩ := s1.shape
      obtain ⟨pa, pc, rfl⟩ := s2.shape
      have TP : Hid (Calls Tryd.prog 15 #[.slice pa P.2.length pc] wr fun e w' => ∃ x, e = .returned (.tuple #[x, .int .i64 0]) ∧ NewD wr w' x (rootL P.2) ∧ wr.grownBy w' none) := troot_new wr _ _ s2 htr (HTB.out.grownNone (grown_trans hg0 hg))
      have HN : Hid (∀ w', w0.grownBy w' none → PartIs w0.heap.size w' (.slice na P.1.length nc) P.1) := fun w' hg' => s1'.part hg' _ (Nat.le_refl _)
      have hrl := rootL_len P.2
      generalize rootL P.2 = D at *
      clear hat s1 s2 s1' s2' c1' c2' hown htr
      go_wp2_with fail
      refine TP.out.mono ?_
      rintro e w1 ⟨x1, rfl, hx1, hg1⟩
      have hgw1 := grown_trans hg hg1
      obtain ⟨nb, _, rfl, hby⟩ := hx1
      have HD : Hid (PartSR w1 (.slice (some ⟨nb, 0, none⟩) 32 32) D) := hby.partSR hrl
      have d1 := hg1.cell c1 (by simp)
      have hga := World.grownBy_alloc w1 (.cells #[.slice na P.1.length nc, .slice (some ⟨nb, 0, none⟩) 32 32] 36) none
      have HO2 : Hid (OwnR w0.heap.size (w1.alloc (.cells #[.slice na P.1.length nc, .slice (some ⟨nb, 0, none⟩) 32 32] 36)) (.slice ca m ccap) T) := (HO.out.grownNone hg1).grownNone hga
      have HN2 := HN.out _ (grown_trans hgw1 hga)
      have HN3 : Hid (PartIs w0.heap.size (w1.alloc (.cells #[.slice na P.1.length nc, .slice (some ⟨nb, 0, none⟩) 32 32] 36)) (.slice na P.1.length nc) P.1) := HN2
      have HD2 : Hid (PartSR (w1.alloc (.cells #[.slice na P.1.length nc, .slice (some ⟨nb, 0, none⟩) 32 32] 36)) (.slice (some ⟨nb, 0, none⟩) 32 32) D) := HD.out.grown hga
      have HBS : Hid (w0.heap.size ≤ (w1.alloc (.cells #[.slice na P.1.length nc, .slice (some ⟨nb, 0, none⟩) 32 32] 36)).heap.size) := (grown_trans hgw1 hga).size
      have hl48 : (T.length + 1) * 48 ≤ 140737488355328 := by omega
      clear hby HN2 c1 c2
      go_wp2_with (at_builtin; refine wpList_append_root rfl _ _ rfl w0.heap.size (.slice ca m ccap) T rfl HO2.out (.slice na P.1.length nc) (.slice (some ⟨nb, 0, none⟩) 32 32) (P.1, D) HN3.out HD2.out w1.heap.size (heap_alloc_new w1 _) rfl hl48 HBS.out ?_; intro v4 w4 ho4 hg4)
      have hgw4 : w0.grownBy w4 none := grown_ownR (grown_trans hgw1 hga) HO2.out (Nat.le_refl _) hg4
      go_roundw
      case rel => exact ⟨m + 1, by omega, by go_num, by rw [HT.out]; exact ho4, hgw4⟩
      case measure => simp [intOf]; omega
    · obtain rfl : m = f.length := by omega
      rw [List.take_length] at hown
      rw [List.take_length]
      have HO : Hid (PairsIs wr (.slice ca (rootsF f).length ccap) (rootsF f)) := hown.list
      have hrl := rootL_len (rootsF f)
      generalize rootL (rootsF f) = RR at *
      generalize (rootsF f).length = n at *
      have hgw := grown_trans hg0 hg
      clear hown
      go_wp2_with fail
      refine (RT.out _ _ hgw (HT0.out.grown hg)).mono ?_
      rintro e w1 ⟨ra, rc, rfl, hr1, hg1⟩
      have HR1 : Hid (SliceIs w1 (.slice ra 32 rc) RR) := hr1
      clear hr1
      go_wp2_with fail
      refine (TR.out _ _ (grown_trans hgw hg1) (HO.out.grown hg1)).mono ?_
      rintro e w2 ⟨y, rfl, hy, hg2⟩
      have hy2 := hy.slice hrl
      obtain ⟨nb, _, rfl, _⟩ := hy
      have SM : Hid (Calls Tryd.prog 12 #[.slice ra 32 rc, .slice (some ⟨nb, 0, none⟩) 32 32] w2 fun e w' => e = .returned (.bool true) ∧ w' = w2) := by
        have := same_any w2 _ _ RR RR (HR1.out.grown hg2) hy2
        rw [decide_eq_true rfl] at this
        exact this
      clear hy2 hrl
      go_wp2_with fail
      refine SM.out.mono ?_
      rintro e w3 ⟨rfl, rfl⟩
      go_wp2
      go_ret
      exact ⟨rfl, grown_trans hgw (grown_trans hg1 hg2)⟩
end Go.Proofs.YtkkcjnhfbblgiacDoor
