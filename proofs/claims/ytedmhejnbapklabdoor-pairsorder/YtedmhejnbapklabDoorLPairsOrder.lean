/-
  The walk of canopykeep.PairsOrder, over what the code must keep.
-/
import Derived.Test.YtedmhejnbapklabDoorPCProve
import Derived.Test.YtedmhejnbapklabDoorPart4
import Derived.Test.YtedmhejnbapklabDoorPart3
import Derived.Test.YtedmhejnbapklabDoorPart2
import Derived.Test.YtedmhejnbapklabDoorPicked
import Derived.Test.YtedmhejnbapklabDoorPForkP
import Derived.Deep.RegionWith
import Derived.Handy
namespace Go.Proofs.YtedmhejnbapklabDoor
open Go.RowKit
/-- Two neighbours change places. -/
def swapL (l : PL) (i : Nat) : PL := (l.set i (l.getD (i + 1) ([], []))).set (i + 1) (l.getD i ([], []))
theorem swap_len (l : PL) (i : Nat) : (swapL l i).length = l.length := by simp [swapL]
theorem swap_get (l : PL) (i j : Nat) (hi : i + 1 < l.length) (hj : j < l.length) : (swapL l i).getD j ([], []) = if j = i then l.getD (i + 1) ([], []) else if j = i + 1 then l.getD i ([], []) else l.getD j ([], []) := by
  unfold swapL
  by_cases h1 : j = i
  · subst h1; rw [if_pos rfl]
    simp [show j < l.length by omega]
  · rw [if_neg h1]
    by_cases h2 : j = i + 1
    · subst h2; rw [if_pos rfl]
      simp [show i + 1 < l.length by omega]
    · rw [if_neg h2]
      simp [Ne.symm h1, Ne.symm h2]
theorem swap_fault {l : PL} (hT : Tree l) (i : Nat) (hi : i + 1 < l.length) : pairsFaultF (swapL l i) = 3 := by
  have hp : ∀ j, j < l.length → pairFaultF (l.getD j ([], [])) = 0 := fun j hj => by
    refine (pairFault_iff _).2 ?_
    have := hT.pairs l[j] (List.getElem_mem hj)
    rw [show l[j] = l.getD j ([], []) by simp [hj]] at this
    exact this
  have hps : ∀ j, j < l.length → pairFaultF ((swapL l i).getD j ([], [])) = 0 := fun j hj => by
    rw [swap_get l i j hi hj]
    split
    · exact hp _ (by omega)
    · split
      · exact hp _ (by omega)
      · exact hp _ hj
  have rise : ∀ a b, a < b → b < l.length → klt (l.getD a ([], [])).1 (l.getD b ([], [])).1 = true := fun a b hab hb => rises_step l hT.rises a b hab hb
  have hr := hT.room
  have e1 : (swapL l i).getD (i + 1) ([], []) = l.getD i ([], []) := by rw [swap_get l i (i + 1) hi hi, if_neg (by omega), if_pos rfl]
  have e2 : (swapL l i).getD i ([], []) = l.getD (i + 1) ([], []) := by rw [swap_get l i i hi (by omega), if_pos rfl]
  have hbad : faultAt (swapL l i) (i + 1) = 3 := by
    have h0 := hps (i + 1) hi
    unfold faultAt
    rw [if_pos h0, Nat.add_sub_cancel, e1, e2, if_pos ⟨by omega, klt_asymm _ _ (rise i (i + 1) (by omega) hi)⟩]
  rw [pairsFault_at (swapL l i) (i + 1) (by rw [swap_len]; exact hi) (by rw [swap_len]; exact hr) ?_ (by rw [hbad]; decide), hbad]
  intro j hj
  refine (faultAt_iff _ j).2 ⟨hps j (by omega), fun h0 => ?_⟩
  rw [swap_get l i j hi (by omega), swap_get l i (j - 1) hi (by omega)]
  rw [if_neg (show ¬ j - 1 = i by omega), if_neg (show ¬ j - 1 = i + 1 by omega)]
  by_cases h1 : j = i
  · rw [if_pos h1]; exact rise _ _ (by omega) hi
  · rw [if_neg h1, if_neg (show ¬ j = i + 1 by omega)]; exact rise _ _ (by omega) (by omega)
theorem swap_fits {l : PL} (hT : Tree l) (i : Nat) (hi : i + 1 < l.length) : Fits (swapL l i) := by
  refine ⟨by rw [swap_len]; exact hT.fits.many, fun j hj => ?_⟩
  rw [swap_len] at hj
  rw [swap_get l i j hi hj]
  split
  · exact hT.fits.each _ (by omega)
  · split
    · exact hT.fits.each _ (by omega)
    · exact hT.fits.each _ hj
theorem OwnP.partAt {base : Nat} {w : World} {g n cap : Nat} {l : PL} (h : OwnP base w (.slice (some ⟨g, 0, none⟩) n cap) l) (i : Nat) (hi : i < l.length) :
    ∃ vk vv, w.cell? ⟨g, i * 2, none⟩ = some vk ∧ w.cell? ⟨g, i * 2 + 1, none⟩ = some vv ∧ PartIs base w vk (l.getD i ([], [])).1 ∧ PartIs base w vv (l.getD i ([], [])).2 := by
  obtain ⟨vs, hvl, hr, hp⟩ := h
  obtain ⟨c0, c1⟩ := flat_get vs i (by omega)
  exact ⟨_, _, OwnP.cells hr _ _ c0, OwnP.cells hr _ _ c1, (hp i hi).1, (hp i hi).2⟩
theorem two_fault : pairsFaultF [([1], []), ([1], [])] = 3 := by decide
theorem two_pairs (w : World) (t : TypeId) (k1 v1 k2 v2 : Value) (p q : Pr) (h1 : SliceIs w k1 p.1) (h2 : SliceIs w v1 p.2) (h3 : SliceIs w k2 q.1) (h4 : SliceIs w v2 q.2) (nb : Nat) (hnb : nb = w.heap.size) :
    PairsIs (w.alloc (.cells #[k1, v1, k2, v2] t)) (.slice (some ⟨nb, 0, none⟩) 2 2) [p, q] := by
  subst hnb
  refine ⟨_, 2, rfl, by simp, .inr ⟨w.heap.size, 0, rfl, fun i hi => ?_⟩⟩
  match i, hi with
  | 0, _ => exact ⟨k1, v1, by simp, by simp, h1.alloc _, h2.alloc _⟩
  | 1, _ => exact ⟨k2, v2, by simp, by simp, h3.alloc _, h4.alloc _⟩
set_option maxRecDepth 100000 in
set_option maxHeartbeats 2000000 in
theorem pairsOrder_walk (hM : KMakeOK) (hC : TCheckOK) (hR : TRootOK) (hP : PProveOK) (w : World) (v : Value) (at_ : Int) (l : PL) (hv : PairsIs w v l) (hl : Fits l) (ha0 : -9223372036854775808 ≤ at_) (ha1 : at_ ≤ 9223372036854775807) (ht : Tabs w) :
    Calls Tryd.prog 5 #[v, .int .i64 at_] w fun e w' => e = .returned (.bool true) ∧ w.grownBy w' none := by
  have hT := mkT_tree l 20 (by omega)
  have hTl := mkT_len l 20 (by omega)
  have HM : Hid (Calls Tryd.prog 6 #[v, .int .i64 20] w fun e w' => ∃ v', e = .returned v' ∧ OwnP w.heap.size w' v' (mkT (l.take 20)) ∧ w.grownBy w' none) := hM w v l 20 hv hl (by omega)
  generalize mkT (l.take 20) = PS at *
  by_cases h2 : PS.length < 2
  · have HC1 : Hid (∀ w' v', PairsIs w' v' PS → Calls Tryd.prog 15 #[v'] w' fun e w'' => e = .returned (.int .i64 0) ∧ w'.grownBy w'' none) := fun w' v' h => by
      have := hC w' v' PS h hT.fits
      rw [(tree_iff PS).2 hT] at this
      exact this
    have HC2 : Hid (∀ w' : World, Calls Tryd.prog 15 #[.slice (some ⟨w'.heap.size + 1 + 1, 0, none⟩) 2 2] (((w'.alloc (.cells #[.int .u8 1] 5)).alloc (.cells #[.int .u8 1] 5)).alloc (.cells #[.slice (some ⟨w'.heap.size, 0, none⟩) 1 1, .slice none 0 0, .slice (some ⟨w'.heap.size + 1, 0, none⟩) 1 1, .slice none 0 0] 32)) fun e w'' => e = .returned (.int .i64 3) ∧ w'.grownBy w'' none) := fun w' => by
      have s1 : SliceIs (w'.alloc (.cells #[.int .u8 1] 5)) (.slice (some ⟨w'.heap.size, 0, none⟩) 1 1) [1] := one_slice w' 1 5
      have s2 : SliceIs ((w'.alloc (.cells #[.int .u8 1] 5)).alloc (.cells #[.int .u8 1] 5)) (.slice (some ⟨w'.heap.size + 1, 0, none⟩) 1 1) [1] := by
        have := one_slice (w'.alloc (.cells #[.int .u8 1] 5)) 1 5
        rw [World.size_alloc] at this
        exact this
      have hp := two_pairs ((w'.alloc (.cells #[.int .u8 1] 5)).alloc (.cells #[.int .u8 1] 5)) 32 _ _ _ _ ([1], []) ([1], []) (s1.alloc _) (sliceIs_nil _) s2 (sliceIs_nil _) (w'.heap.size + 1 + 1) (by simp)
      refine (hC _ _ _ hp ⟨by simp, fun i hi => ?_⟩).mono ?_
      · match i, hi with
        | 0, _ => simp
        | 1, _ => simp
      · rintro e w'' ⟨rfl, hg⟩
        exact ⟨by rw [two_fault], grown_trans (grown_alloc (grown_alloc (World.grownBy_alloc _ _ _) _) _) hg⟩
    have t2 : (PS.length : Int) < 2 := by omega
    clear hM hC hR hP hv hl ht hT hTl ha0 ha1 h2
    go_enter Tryd.func5, Tryd.ntmps5
    go_wp2_with fail
    refine HM.out.mono ?_
    rintro e w1 ⟨v1, rfl, ho1, hg1⟩
    obtain ⟨pa, pc, rfl⟩ := ho1.shape
    have HL : Hid (PairsIs w1 (.slice pa PS.length pc) PS) := ho1.list
    clear ho1
    go_wp2_with fail
    refine (HC1.out _ _ HL.out).mono ?_
    rintro e w2 ⟨rfl, hg2⟩
    go_wp2_with fail
    refine (HC2.out w2).mono ?_
    rintro e w3 ⟨rfl, hg3⟩
    go_wp2
    go_ret
    exact ⟨rfl, grown_trans hg1 (grown_trans hg2 hg3)⟩
  · have PK : Hid (∀ w' : World, Calls Tryd.prog 14 #[.int .i64 at_, .int .i64 ((PS.length : Int) - 1)] w' fun e w'' => ∃ k : Nat, e = .returned (.int .i64 (k : Int)) ∧ (k : Int) < (PS.length : Int) - 1 ∧ w'' = w') := fun w' => picked_any at_ _ w' ha0 ha1 (by omega) (by omega)
    have t2 : ¬ (PS.length : Int) < 2 := by omega
    have HT : Hid (Tree PS) := hT
    have hroom := hT.room
    have HPS : Hid (∀ i, i + 1 < PS.length → pairsFaultF (swapL PS i) = 3) := fun i hi => swap_fault hT i hi
    have HTB : Hid (Tabs w) := ht
    have wr1 : IntKind.i64.wrap ((PS.length : Int) - 1) = (PS.length : Int) - 1 := by rw [IntKind.wrap_i64]; omega
    clear hv hl ht ha0 ha1 hM hT hTl
    go_enter Tryd.func5, Tryd.ntmps5
    go_wp2_with fail
    refine HM.out.mono ?_
    rintro e w1 ⟨v1, rfl, ho1, hg1⟩
    rcases ho1.cases with ⟨_, h0⟩ | ⟨g, cap, rfl, hgb, hgl, hcap, hcm, hfz⟩
    · rw [h0] at h2; simp at h2
    have HL : Hid (PairsIs w1 (.slice (some ⟨g, 0, none⟩) PS.length cap) PS) := ho1.list
    have HO : Hid (OwnP w.heap.size w1 (.slice (some ⟨g, 0, none⟩) PS.length cap) PS) := ho1
    have HFZ : Hid (∀ i, i < PS.length * 2 → w1.frozen? ⟨g, i, none⟩ = false) := hfz
    clear ho1 hfz
    go_wp2_with fail
    refine (PK.out w1).mono ?_
    rintro e w2 ⟨i, rfl, hik, rfl⟩
    have hi1 : i + 1 < PS.length := by omega
    obtain ⟨ak, av, c0, c1, s0, s1⟩ := HO.out.partAt i (by omega)
    obtain ⟨bk, bv, d0, d1, s2, s3⟩ := HO.out.partAt (i + 1) hi1
    have HSW : Hid (swapL PS i = (PS.set i (PS.getD (i + 1) ([], []))).set (i + 1) (PS.getD i ([], []))) := rfl
    generalize PS.getD i ([], []) = P0 at *
    generalize PS.getD (i + 1) ([], []) = P1 at *
    have f0 := HFZ.out (i * 2) (by omega)
    have f1 := HFZ.out (i * 2 + 1) (by omega)
    have f2 := HFZ.out ((i + 1) * 2) (by omega)
    have f3 := HFZ.out ((i + 1) * 2 + 1) (by omega)
    have i1 : (i : Int) < (PS.length : Int) := by omega
    have i2 : ((i + 1 : Nat) : Int) < (PS.length : Int) := by omega
    have i3 : IntKind.i64.wrap ((i : Int) + 1) = ((i + 1 : Nat) : Int) := by rw [IntKind.wrap_i64]; omega
    have hrow := HO.out.row
    have HQ : Hid (OwnP w.heap.size ((((w2.setCell ⟨g, i * 2, none⟩ bk).setCell ⟨g, i * 2 + 1, none⟩ bv).setCell ⟨g, (i + 1) * 2, none⟩ ak).setCell ⟨g, (i + 1) * 2 + 1, none⟩ av) (.slice (some ⟨g, 0, none⟩) PS.length cap) (swapL PS i)) := by
      have q1 := HO.out.set i (by omega) bk bv P1 s2 s3
      have hgs : w2.grownBy ((w2.setCell ⟨g, i * 2, none⟩ bk).setCell ⟨g, i * 2 + 1, none⟩ bv) (some g) := grown_set (grown_set (grown_refl _ _) _ _) _ _
      have hkept : (some g : Option Nat) = none ∨ ∃ g' cur fz, (some g : Option Nat) = some g' ∧ w.heap.size ≤ g' ∧ w2.heap[g']? = some (.cells cur 32 fz) := hrow
      have q2 := q1.set (i + 1) (by simp; omega) ak av P0 (s0.kept hgs hkept) (s1.kept hgs hkept)
      show OwnP _ _ _ _
      rw [HSW.out]
      exact q2
    have HGQ : Hid (w.grownBy ((((w2.setCell ⟨g, i * 2, none⟩ bk).setCell ⟨g, i * 2 + 1, none⟩ bv).setCell ⟨g, (i + 1) * 2, none⟩ ak).setCell ⟨g, (i + 1) * 2 + 1, none⟩ av) none) := grown_setNew (grown_setNew (grown_setNew (grown_setNew hg1 _ hgb _ _) _ hgb _ _) _ hgb _ _) _ hgb _ _
    have HFI : Hid (Fits (swapL PS i)) := swap_fits HT.out i hi1
    have HFA : Hid (pairsFaultF (swapL PS i) = 3) := HPS.out i hi1
    have HSL : Hid ((swapL PS i).length = PS.length) := swap_len PS i
    obtain ⟨a0, a0c, rfl⟩ := s0.1.shape
    obtain ⟨a1, a1c, rfl⟩ := s1.1.shape
    obtain ⟨a2, a2c, rfl⟩ := s2.1.shape
    obtain ⟨a3, a3c, rfl⟩ := s3.1.shape
    generalize swapL PS i = QS at *
    have HCQ : Hid (∀ w' v', PairsIs w' v' QS → Calls Tryd.prog 15 #[v'] w' fun e w'' => e = .returned (.int .i64 3) ∧ w'.grownBy w'' none) := fun w' v' h => by
      have := hC w' v' QS h HFI.out
      rw [HFA.out] at this
      exact this
    have HRQ : Hid (∀ w' v', w.grownBy w' none → PairsIs w' v' QS → Calls Tryd.prog 8 #[v'] w' fun e w'' => ∃ xa xn xc, e = .returned (.tuple #[.slice xa xn xc, .int .i64 3]) ∧ w'.grownBy w'' none) := fun w' v' hg h => by
      refine (hR w' v' QS h HFI.out (HTB.out.grownNone hg)).mono ?_
      rintro e w'' ⟨x, rfl, hx, hg2⟩
      obtain ⟨xa, xc, rfl⟩ := hx.shape
      exact ⟨xa, _, xc, by rw [HFA.out], hg2⟩
    have HPQ : Hid (∀ w' v', w.grownBy w' none → PairsIs w' v' QS → Calls Tryd.prog 9 #[v', .slice (some ⟨w'.heap.size, 0, none⟩) 1 1] (w'.alloc (.cells #[.int .u8 1] 5)) fun e w'' => ∃ sa sn sc ka kn kc va vn vc zb, e = .returned (.tuple #[.agg #[.bool zb, .slice sa sn sc, .slice ka kn kc, .slice va vn vc], .int .i64 3]) ∧ w'.grownBy w'' none) := fun w' v' hg h => by
      have hga := World.grownBy_alloc w' (.cells #[.int .u8 1] 5) none
      refine (hP _ v' _ QS [1] (h.grown hga) (one_slice w' 1 5) HFI.out (HTB.out.grownNone (grown_trans hg hga))).mono ?_
      rintro e w'' ⟨x, rfl, hx, hg2⟩
      obtain ⟨_, vs, vk, vv, rfl, _, _, h1, h2, h3⟩ := hx
      obtain ⟨sa, sc, rfl⟩ := h1.shape
      obtain ⟨ka, kc, rfl⟩ := h2.1.shape
      obtain ⟨va, vc, rfl⟩ := h3.1.shape
      exact ⟨sa, _, sc, ka, _, kc, va, _, vc, _, by rw [getE, if_neg (by rw [HFA.out]; decide), HFA.out], grown_trans hga hg2⟩
    clear s0 s1 s2 s3 hrow HO HL HFZ HSW HPS HT hC hR hP
    go_wp2_with fail
    go_region
    have HQL := HQ.out.list
    have hgq := HGQ.out
    generalize ((((w2.setCell ⟨g, i * 2, none⟩ (.slice a2 P1.1.length a2c)).setCell ⟨g, i * 2 + 1, none⟩ (.slice a3 P1.2.length a3c)).setCell ⟨g, (i + 1) * 2, none⟩ (.slice a0 P0.1.length a0c)).setCell ⟨g, (i + 1) * 2 + 1, none⟩ (.slice a1 P0.2.length a1c)) = W5 at *
    have HQ5 : Hid (PairsIs W5.drew (.slice (some ⟨g, 0, none⟩) PS.length cap) QS) := HQL.grown (grown_drew (grown_refl _ _))
    have hg5 := grown_drew hgq
    clear HQL HQ HGQ c0 c1 d0 d1 f0 f1 f2 f3 hgq
    go_wp2_with fail
    refine (HCQ.out _ _ HQ5.out).mono ?_
    rintro e w6 ⟨rfl, hg6⟩
    go_wp2_with fail
    refine (HRQ.out _ _ (grown_trans hg5 hg6) (HQ5.out.grown hg6)).mono ?_
    rintro e w7 ⟨xa, xn, xc, rfl, hg7⟩
    have hg67 := grown_trans hg6 hg7
    go_wp2_with fail
    refine (HPQ.out _ _ (grown_trans hg5 hg67) (HQ5.out.grown hg67)).mono ?_
    rintro e w8 ⟨sa, sn, sc, ka, kn, kc, va, vn, vc, zb, rfl, hg8⟩
    go_wp2
    go_ret
    exact ⟨rfl, grown_alloc (grown_trans hg5 (grown_trans hg67 hg8)) _⟩
end Go.Proofs.YtedmhejnbapklabDoor
