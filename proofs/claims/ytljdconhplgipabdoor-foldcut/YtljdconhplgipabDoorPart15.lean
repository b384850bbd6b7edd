/-
  Texts of this proof, joined: FRootsP, FRootP.
-/
import Derived.Test.YtljdconhplgipabDoorRootMem
import Derived.Test.YtljdconhplgipabDoorTRootP
import Derived.Test.YtljdconhplgipabDoorPart9
import Derived.Test.YtljdconhplgipabDoorPart2
import Derived.Test.YtljdconhplgipabDoorPart11
import Derived.Test.YtljdconhplgipabDoorPart10
/-
  forest.rootPairs, as it landed.
-/
namespace Go.Proofs.YtljdconhplgipabDoor
open Go.RowKit
set_option maxRecDepth 100000 in
set_option maxHeartbeats 2000000 in
theorem rootPairs_any (w : World) (v : Value) (l : FL) (hv : TensIs w v l) (hF : Forest l) (ht : Tabs w) :
    Calls Tryd.prog 18 #[v] w fun e w' => ∃ x, e = .returned (.tuple #[x, .int .i64 0]) ∧ PairsIs w' x (rootsF l) ∧ w.grownBy w' none := by
  obtain ⟨a, cap, rfl⟩ := hv.shape
  have HV : Hid (TensIs w (.slice a l.length cap) l) := hv
  have HF : Hid (Forest l) := hF
  have hroom := hF.room
  clear hv hF
  go_enter Tryd.func18, Tryd.ntmps18
  go_wp2_with fail
  go_loopw [4, 11] (fun cv i wr => ∃ m : Nat, m ≤ l.length ∧ i = .int .i64 (m : Int) ∧ OwnR w.heap.size wr cv (rootsF (l.take m)) ∧ w.grownBy wr none) (fun _ i _ => l.length - (intOf i).toNat)
  case atStart => exact ⟨0, by omega, rfl, ownR_nil _ _, grown_refl _ _⟩
  case round =>
    obtain ⟨m, hm, rfl, hown, hg⟩ := hrel
    obtain ⟨ca, ccap, rfl⟩ := hown.shape
    by_cases hlt : m < l.length
    · have i1 : (m : Int) < (l.length : Int) := by omega
      obtain ⟨b, o, rfl, hat⟩ := HV.out.at m hlt
      have hat0 := hat
      obtain ⟨vn, vp, c1, c2, s1, s2⟩ := hat.grown hg
      obtain ⟨vn', vp', c1', c2', s1', s2'⟩ := hat0
      have hvn : vn' = vn := by
        have := hg.cell c1' (by simp)
        rw [this] at c1
        exact Option.some.inj c1
      subst hvn
      have HT : Hid (rootsF (l.take (m + 1)) = rootsF (l.take m) ++ [((l.getD m ([], [])).1, rootL (l.getD m ([], [])).2)]) := roots_take l m hlt
      have htr : Tree (l.getD m ([], [])).2 := by
        have := (HF.out.tens l[m] (List.getElem_mem hlt)).2.2
        rwa [show l[m] = l.getD m ([], []) by simp [hlt]] at this
      have hTl : (rootsF (l.take m)).length = m := by rw [roots_len]; simp; omega
      generalize l.getD m ([], []) = P at *
      generalize rootsF (l.take m) = T at *
      rw [hTl] at hown ⊢
      have HO : Hid (OwnR w.heap.size wr (.slice ca m ccap) T) := hown
      obtain ⟨na, nc, rfl⟩ := s1.shape
      obtain ⟨pa, pc, rfl⟩ := s2.shape
      obtain ⟨W, hW⟩ : ∃ W : World, W = wr.alloc (.cells #[.slice na P.1.length nc, .slice pa P.2.length pc] 56) := ⟨_, rfl⟩
      have HW : Hid (W = wr.alloc (.cells #[.slice na P.1.length nc, .slice pa P.2.length pc] 56)) := hW
      have hgW : wr.grownBy W none := by rw [hW]; exact World.grownBy_alloc _ _ _
      have BK : Hid (W.heap[wr.heap.size]? = some (.cells #[.slice na P.1.length nc, .slice pa P.2.length pc] 56)) := by rw [hW]; exact heap_alloc_new wr _
      obtain ⟨d1, d2, _, _⟩ := pair_room (grown_refl W none) BK.out
      have TR : Hid (Calls Tryd.prog 19 #[.slice pa P.2.length pc] W fun e w' => ∃ x, e = .returned (.tuple #[x, .int .i64 0]) ∧ NewD W w' x (rootL P.2) ∧ W.grownBy w' none) := troot_new W _ _ (s2.grown hgW) htr (ht.grownNone (grown_trans hg hgW))
      have HN : Hid (∀ w', w.grownBy w' none → PartIs w.heap.size w' (.slice na P.1.length nc) P.1) := fun w' hg' => s1'.part hg' _ (Nat.le_refl _)
      have hrl := rootL_len P.2
      generalize rootL P.2 = D at *
      have hgw := grown_trans hg hgW
      clear hat s1 s2 s1' s2' c1' c2' hW hown htr
      go_upto_region 5 with fail
      rw [← HW.out]
      go_wp2_with fail
      refine TR.out.mono ?_
      rintro e w1 ⟨x1, rfl, hx1, hg1⟩
      have hgw1 := grown_trans hgw hg1
      obtain ⟨nb, _, rfl, hby⟩ := hx1
      have HD : Hid (PartSR w1 (.slice (some ⟨nb, 0, none⟩) 32 32) D) := hby.partSR hrl
      obtain ⟨e1, e2, _, _⟩ := pair_room hg1 BK.out
      have hsz := hgw1.size
      have hga := World.grownBy_alloc w1 (.cells #[.slice na P.1.length nc, .slice (some ⟨nb, 0, none⟩) 32 32] 73) none
      have HO2 : Hid (OwnR w.heap.size (w1.alloc (.cells #[.slice na P.1.length nc, .slice (some ⟨nb, 0, none⟩) 32 32] 73)) (.slice ca m ccap) T) := (HO.out.grownNone (grown_trans hgW hg1)).grownNone hga
      have HN2 := HN.out _ (grown_trans hgw1 hga)
      have HN3 : Hid (PartIs w.heap.size (w1.alloc (.cells #[.slice na P.1.length nc, .slice (some ⟨nb, 0, none⟩) 32 32] 73)) (.slice na P.1.length nc) P.1) := HN2
      have HD2 : Hid (PartSR (w1.alloc (.cells #[.slice na P.1.length nc, .slice (some ⟨nb, 0, none⟩) 32 32] 73)) (.slice (some ⟨nb, 0, none⟩) 32 32) D) := HD.out.grown hga
      have HBS : Hid (w.heap.size ≤ (w1.alloc (.cells #[.slice na P.1.length nc, .slice (some ⟨nb, 0, none⟩) 32 32] 73)).heap.size) := (grown_trans hgw1 hga).size
      have hl48 : (T.length + 1) * 48 ≤ 140737488355328 := by omega
      clear hby d1 d2 HN2
      go_wp2_with (at_builtin; refine wpList_append_root rfl _ _ rfl w.heap.size (.slice ca m ccap) T rfl HO2.out (.slice na P.1.length nc) (.slice (some ⟨nb, 0, none⟩) 32 32) (P.1, D) HN3.out HD2.out w1.heap.size (heap_alloc_new w1 _) rfl hl48 HBS.out ?_; intro v4 w4 ho4 hg4)
      have hgw4 : w.grownBy w4 none := grown_ownR (grown_trans hgw1 hga) HO2.out (Nat.le_refl _) hg4
      go_roundw
      case rel => exact ⟨m + 1, by omega, by go_num, by rw [HT.out]; exact ho4, hgw4⟩
      case measure => simp [intOf]; omega
    · obtain rfl : m = l.length := by omega
      rw [List.take_length] at hown
      rw [List.take_length]
      have HO : Hid (PairsIs wr (.slice ca (rootsF l).length ccap) (rootsF l)) := hown.list
      generalize (rootsF l).length = n at *
      clear hown
      go_wp2
      go_ret2
      exact ⟨_, rfl, HO.out, hg⟩
end Go.Proofs.YtljdconhplgipabDoor

/-
  forest.Root, as it landed, keeps P5.5.
-/
namespace Go.Proofs.YtljdconhplgipabDoor
open Go.RowKit
set_option maxRecDepth 100000 in
set_option maxHeartbeats 1000000 in
theorem froot_ok : FRootOK := by
  intro w v l hv hl ht
  have CH : Hid (Calls Tryd.prog 17 #[v] w fun e w' => e = .returned (.int .i64 (forestE l)) ∧ w.grownBy w' none) := fcheck_ok w v l hv hl
  by_cases hz : forestE l = 0
  · have hF := (forest_iff l).1 hz
    have hR := roots_tree hF
    have e1 : frootF l = rootL (rootsF l) := by rw [frootF, if_pos hz]
    rw [e1, hz]
    rw [hz] at CH
    have RP : Hid (∀ w', w.grownBy w' none → Calls Tryd.prog 18 #[v] w' fun e w'' => ∃ x, e = .returned (.tuple #[x, .int .i64 0]) ∧ PairsIs w'' x (rootsF l) ∧ w'.grownBy w'' none) := fun w' hg => rootPairs_any w' v l (hv.grown hg) hF (ht.grownNone hg)
    have TR : Hid (∀ w' x, w.grownBy w' none → PairsIs w' x (rootsF l) → Calls Tryd.prog 19 #[x] w' fun e w'' => ∃ y, e = .returned (.tuple #[y, .int .i64 0]) ∧ NewD w' w'' y (rootL (rootsF l)) ∧ w'.grownBy w'' none) := fun w' x hg hx => troot_new w' x _ hx hR (ht.grownNone hg)
    have hrl := rootL_len (rootsF l)
    generalize rootL (rootsF l) = D at *
    generalize rootsF l = R at *
    obtain ⟨a, cap, rfl⟩ := hv.shape
    clear hv hl ht hF hR e1 hz
    go_enter Tryd.func9, Tryd.ntmps9
    go_wp2_with fail
    refine CH.out.mono ?_
    rintro e w1 ⟨rfl, hg1⟩
    go_wp2_with fail
    refine (RP.out _ hg1).mono ?_
    rintro e w2 ⟨x, rfl, hx, hg2⟩
    have HX : Hid (PairsIs w2 x R) := hx
    obtain ⟨xa, xc, rfl⟩ := hx.shape
    have hg12 := grown_trans hg1 hg2
    clear hx
    go_wp2_with fail
    refine (TR.out _ _ hg12 HX.out).mono ?_
    rintro e w3 ⟨y, rfl, hy, hg3⟩
    have HS : Hid (SliceIs w3 y D) := hy.slice hrl
    obtain ⟨nb, _, rfl, _⟩ := hy
    go_wp2
    go_ret2
    exact ⟨_, rfl, HS.out, grown_trans hg12 hg3⟩
  · have e1 : frootF l = [] := by rw [frootF, if_neg hz]
    rw [e1]
    generalize forestE l = z at *
    have hz' : (z != 0) = true := by simpa using hz
    obtain ⟨a, cap, rfl⟩ := hv.shape
    clear hv hl ht e1
    go_enter Tryd.func9, Tryd.ntmps9
    go_wp2_with fail
    refine CH.out.mono ?_
    rintro e w1 ⟨rfl, hg1⟩
    go_wp2
    go_ret2
    exact ⟨_, rfl, sliceIs_nil _, hg1⟩
end Go.Proofs.YtljdconhplgipabDoor
