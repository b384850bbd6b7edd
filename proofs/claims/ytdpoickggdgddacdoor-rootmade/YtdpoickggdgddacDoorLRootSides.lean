/-
  The walk of canopykeep.RootSides, over what the code must keep.
-/
import Derived.Test.YtdpoickggdgddacDoorTCRoot
import Derived.Test.YtdpoickggdgddacDoorForkF
import Derived.Test.YtdpoickggdgddacDoorKMakeS
import Derived.Test.YtdpoickggdgddacDoorKPure
import Derived.Test.YtdpoickggdgddacDoorKSame
import Derived.Test.YtdpoickggdgddacDoorPairSlice3
import Derived.Test.YtdpoickggdgddacDoorBitC
import Derived.Test.YtdpoickggdgddacDoorPartC
import Derived.Test.YtdpoickggdgddacDoorTRootP
namespace Go.Proofs.YtdpoickggdgddacDoor
open Go.RowKit
/-- digest.Parts of a fork: a byte, and two digests. -/
theorem forkParts (w : World) (B : Nat) (hB : B < 145) (x y : Value) (X Y : List UInt8) (hx : SliceIs w x X) (hy : SliceIs w y Y) (hX : X.length = 32) (hY : Y.length = 32) (ht : Tabs w) :
    Calls Tryd.prog 8 #[.int .u8 2, .slice (some ⟨w.heap.size + 1, 0, none⟩) 3 3] ((w.alloc (.cells #[.int .u8 (B : Int)] 5)).alloc (.cells #[.slice (some ⟨w.heap.size, 0, none⟩) 1 1, x, y] 22)) fun e w'' => ∃ z, e = .returned (.tuple #[z, .int .i64 0]) ∧ SliceIs w'' z (sumF (joinF 2 [[UInt8.ofNat B], X, Y])) ∧ w.grownBy w'' none := by
  have hone : SliceIs (w.alloc (.cells #[.int .u8 (B : Int)] 5)) (.slice (some ⟨w.heap.size, 0, none⟩) 1 1) [UInt8.ofNat B] := by
    have := one_slice w (UInt8.ofNat B) 5
    rw [show (((UInt8.ofNat B).toNat : Nat) : Int) = (B : Int) by simp; omega] at this
    exact this
  have hgg : w.grownBy ((w.alloc (.cells #[.int .u8 (B : Int)] 5)).alloc (.cells #[.slice (some ⟨w.heap.size, 0, none⟩) 1 1, x, y] 22)) none := grown_alloc (World.grownBy_alloc _ _ _) _
  refine (parts_short _ 2 _ [[UInt8.ofNat B], X, Y] (plist_three _ _ _ _ _ [UInt8.ofNat B] X Y hone (hx.alloc _) (hy.alloc _) _ (by simp)) (by simp) ?_ (by rw [joinF_three, hX, hY]; simp) (ht.grownNone hgg)).mono ?_
  · intro i hi
    match i, hi with
    | 0, _ => simp
    | 1, _ => simp [hX]
    | 2, _ => simp [hY]
  · rintro e w1 ⟨z, rfl, hz, hg1⟩
    exact ⟨z, rfl, hz, grown_trans hgg hg1⟩
/-- tree.Root of a tree. -/
theorem TRootOK.of (hR : TRootOK) (w : World) (v : Value) (l : PL) (hv : PairsIs w v l) (hT : Tree l) (ht : Tabs w) :
    Calls Tryd.prog 7 #[v] w fun e w' => ∃ x, e = .returned (.tuple #[x, .int .i64 0]) ∧ SliceIs w' x (rootL l) ∧ w.grownBy w' none := by
  have := hR w v l hv hT.fits ht
  rw [tree_fault l hT, rootF, if_pos (tree_fault l hT)] at this
  exact this
set_option maxRecDepth 100000 in
set_option maxHeartbeats 2000000 in
theorem rootSides_walk (hM : KMakeOK) (hR : TRootOK) (hPt : PartOK) (hBt : BitOK) (w : World) (v : Value) (l : PL) (hv : PairsIs w v l) (hl : Fits l) (ht : Tabs w) :
    Calls Tryd.prog 4 #[v] w fun e w' => e = .returned (.bool true) ∧ w.grownBy w' none := by
  have hT := mkT_tree l 16 (by omega)
  have hTl := mkT_len l 16 (by omega)
  have HM : Hid (Calls Tryd.prog 11 #[v, .int .i64 16] w fun e w' => ∃ v', e = .returned v' ∧ OwnP w.heap.size w' v' (mkT (l.take 16)) ∧ w.grownBy w' none) := hM w v l 16 hv hl (by omega)
  generalize mkT (l.take 16) = PS at *
  clear hM hv hl
  have HR1 : Hid (∀ w' v', w.grownBy w' none → PairsIs w' v' PS → Calls Tryd.prog 7 #[v'] w' fun e w'' => ∃ x, e = .returned (.tuple #[x, .int .i64 0]) ∧ SliceIs w'' x (rootL PS) ∧ w'.grownBy w'' none) := fun w' v' hg h => TRootOK.of hR w' v' PS h hT (ht.grownNone hg)
  have rl0 := rootL_len PS
  by_cases h2 : 2 ≤ PS.length
  · have hrange := forkBit_range hT h2
    have hsr := side_range hT h2
    have hpart := fork_part hT h2
    have hbit := fun j hj => bit_side hT h2 j hj
    have tF := side_tree hT (forkBit PS).toNat false
    have tT := side_tree hT (forkBit PS).toNat true
    have eF := side_false hT h2
    have eT := side_true hT h2
    have eR := rootL_fork PS hT h2
    obtain ⟨B, hB⟩ : ∃ B : Nat, forkBit PS = (B : Int) := ⟨(forkBit PS).toNat, by omega⟩
    have eB : (forkBit PS).toNat = B := by omega
    have hB2 : B < 145 := by omega
    rw [eB] at tF tT eF eT hsr hbit eR
    rw [hB] at hpart
    rw [eF] at tF eR
    rw [eT] at tT eR
    generalize sideN PS B = s at *
    have HR2 : Hid (∀ w' v', w.grownBy w' none → PairsIs w' v' (PS.take s) → Calls Tryd.prog 7 #[v'] w' fun e w'' => ∃ x, e = .returned (.tuple #[x, .int .i64 0]) ∧ SliceIs w'' x (rootL (PS.take s)) ∧ w'.grownBy w'' none) := fun w' v' hg h => TRootOK.of hR w' v' _ h tF (ht.grownNone hg)
    have HR3 : Hid (∀ w' v', w.grownBy w' none → PairsIs w' v' (PS.drop s) → Calls Tryd.prog 7 #[v'] w' fun e w'' => ∃ x, e = .returned (.tuple #[x, .int .i64 0]) ∧ SliceIs w'' x (rootL (PS.drop s)) ∧ w'.grownBy w'' none) := fun w' v' hg h => TRootOK.of hR w' v' _ h tT (ht.grownNone hg)
    have HDP : Hid (∀ (w' : World) (x y : Value), w.grownBy w' none → SliceIs w' x (rootL (PS.take s)) → SliceIs w' y (rootL (PS.drop s)) → Calls Tryd.prog 8 #[.int .u8 2, .slice (some ⟨w'.heap.size + 1, 0, none⟩) 3 3] ((w'.alloc (.cells #[.int .u8 (B : Int)] 5)).alloc (.cells #[.slice (some ⟨w'.heap.size, 0, none⟩) 1 1, x, y] 22)) fun e w'' => ∃ z, e = .returned (.tuple #[z, .int .i64 0]) ∧ SliceIs w'' z (rootL PS) ∧ w'.grownBy w'' none) := fun w' x y hg hx hy => by
      rw [eR]
      exact forkParts w' B hB2 x y _ _ hx hy (rootL_len _) (rootL_len _) (ht.grownNone hg)
    have HKEY : Hid (∀ j, j < PS.length → 1 ≤ (PS.getD j ([], [])).1.length ∧ (PS.getD j ([], [])).1.length ≤ 16) := fun j hj => hT.key j hj
    have HBIT : Hid (∀ (w' : World) (v' : Value) (j : Nat), j < PS.length → SliceIs w' v' (PS.getD j ([], [])).1 → Calls Tryd.prog 12 #[v', .int .i64 (B : Int)] w' fun e w'' => e = .returned (.tuple #[.bool (decide (s ≤ j)), .int .i64 0]) ∧ w'.grownBy w'' none) := fun w' v' j hj h => by
      have := BitOK.of hBt w' v' _ B h (hT.key j hj) hB2
      rw [hbit j hj] at this
      exact this
    have HPART : Hid (∀ (w' : World) (v1 v2 : Value), SliceIs w' v1 (PS.getD 0 ([], [])).1 → SliceIs w' v2 (PS.getD (PS.length - 1) ([], [])).1 → Calls Tryd.prog 10 #[v1, v2] w' fun e w'' => e = .returned (.tuple #[.int .i64 (B : Int), .int .i64 0]) ∧ w'.grownBy w'' none) := fun w' v1 v2 h1 h2' => by
      have := PartOK.of hPt w' v1 v2 _ _ h1 h2' (hT.key 0 (by omega)) (hT.key _ (by omega))
      rw [hpart] at this
      exact this
    have hroom := hT.room
    have HRL : Hid ((rootL PS).length = 32) := rl0
    generalize rootL (PS.take s) = XL at *
    generalize rootL (PS.drop s) = XR at *
    generalize rootL PS = X at *
    clear hrange hpart hbit tF tT eF eT eR hB eB hR hPt hBt ht hT rl0
    obtain ⟨s1, s2⟩ := hsr
    have t1 : (2 : Int) ≤ (PS.length : Int) := by omega
    go_enter Tryd.func4, Tryd.ntmps4
    go_wp2_with fail
    refine HM.out.mono ?_
    rintro e w1 ⟨v1, rfl, ho1, hg1⟩
    obtain ⟨a1, c1, rfl⟩ := ho1.shape
    have HL : Hid (PairsIs w1 (.slice a1 PS.length c1) PS) := ho1.list
    clear ho1
    obtain ⟨m, hm⟩ : ∃ m, PS.length = m + 1 := ⟨PS.length - 1, by omega⟩
    obtain ⟨pb, po, rfl, hat0⟩ := HL.out.at 0 (by omega)
    obtain ⟨pb2, po2, e, hatm⟩ := HL.out.at m (by omega)
    cases e
    obtain ⟨vk, vv, x1, _, u1, _⟩ := hat0
    obtain ⟨uk, uv, x2, _, u2, _⟩ := hatm
    rw [Nat.zero_mul, Nat.add_zero] at x1
    have PT : Hid (Calls Tryd.prog 10 #[vk, uk] w1.drew fun e w' => e = .returned (.tuple #[.int .i64 (B : Int), .int .i64 0]) ∧ w1.drew.grownBy w' none) := HPART.out w1.drew vk uk u1.drew (by rw [show PS.length - 1 = m by omega]; exact u2.drew)
    obtain ⟨ka, kc, rfl⟩ := u1.shape
    obtain ⟨ua, uc, rfl⟩ := u2.shape
    generalize (PS.getD 0 ([], [])).1.length = k0 at *
    generalize (PS.getD m ([], [])).1.length = km at *
    have y1 : w1.drew.cell? ⟨pb, po, none⟩ = some (.slice ka k0 kc) := x1
    have y2 : w1.drew.cell? ⟨pb, po + m * 2, none⟩ = some (.slice ua km uc) := x2
    have hm1 : m + 1 ≤ PS.length := by omega
    have hm2 : PS.length ≤ m + 1 := by omega
    have HN : Hid (PS.length = PS.length) := rfl
    clear hm u1 u2 x1 x2 HPART HM
    generalize hL : PS.length = L at *
    have HLn : Hid (PS.length = L) := hL
    clear hL HN
    have i0 : (0 : Int) < (L : Int) := by omega
    have i0' : 0 < L := by omega
    have i1 : (m : Int) < (L : Int) := by omega
    have i2 : IntKind.i64.wrap ((L : Int) - 1) = (m : Int) := by rw [IntKind.wrap_i64]; omega
    have hgd := grown_drew (grown_refl w1 none)
    go_upto_region 5 with fail
    go_region_held3 (fun w' => w'.cell? ⟨pb, po, none⟩ = some (.slice ka k0 kc) ∧ w'.cell? ⟨pb, po + m * 2, none⟩ = some (.slice ua km uc))
      (first | exact ⟨y1, y2⟩ | exact ⟨f2, f3⟩)
      (first | (go_at_call 10; refine PT.out.mono ?_; rintro e w2 ⟨rfl, hg2⟩; have f2 := hg2.cell y1 (by simp); have f3 := hg2.cell y2 (by simp)))
    have hg12 := grown_trans hgd hg2
    have hgw2 := grown_trans hg1 hg12
    have HL2 : Hid (PairsIs w2 (.slice (some ⟨pb, po, none⟩) L c1) PS) := HL.out.grown hg12
    clear f2 f3 y1 y2 PT hgd hg2 hg12 HL hm1 hm2 i1 i2
    go_wp2_with fail
    go_loopw [8] (fun si wr => ∃ i : Nat, i ≤ s ∧ si = .int .i64 (i : Int) ∧ w2.grownBy wr none) (fun si _ => L - (intOf si).toNat)
    case atStart => exact ⟨0, by omega, rfl, grown_refl _ _⟩
    case round =>
      obtain ⟨i, hi, rfl, hgr⟩ := hrel
      have t2 : (i : Int) < (L : Int) := by omega
      obtain ⟨qb, qo, e, hat⟩ := (HL2.out.grown hgr).at i (by rw [HLn.out]; omega)
      cases e
      obtain ⟨vk, vv, x1, _, u1, _⟩ := hat
      have BT : Hid (Calls Tryd.prog 12 #[vk, .int .i64 (B : Int)] wr fun e w'' => e = .returned (.tuple #[.bool (decide (s ≤ i)), .int .i64 0]) ∧ wr.grownBy w'' none) := HBIT.out wr vk i (by omega) u1
      obtain ⟨qa, qc, rfl⟩ := u1.shape
      generalize (PS.getD i ([], [])).1.length = ki at *
      clear u1
      by_cases his : s ≤ i
      · obtain rfl : i = s := by omega
        rw [decide_eq_true his] at BT
        go_wp2_with fail
        refine BT.out.mono ?_
        rintro e w3 ⟨rfl, hg3⟩
        have hg23 := grown_trans hgr hg3
        have HL3 : Hid (PairsIs w3 (.slice (some ⟨pb, po, none⟩) L c1) PS) := HL2.out.grown hg23
        have hcap := HL3.out.cap
        have hgw3 := grown_trans hgw2 hg23
        obtain ⟨b1, r1, g1⟩ := pslice_hm (some ⟨pb, po, none⟩) c1 PS i (by rw [HLn.out]; omega) hcap
        obtain ⟨b2, d2, r2, g2⟩ := pslice_l (some ⟨pb, po, none⟩) c1 PS i (by rw [HLn.out]; omega)
        rw [HLn.out] at r1 r2 g1 g2
        have TA : Hid (PairsIs w3 (.slice b1 i i) (PS.take i)) := g1 w3 HL3.out
        have TB : Hid (PairsIs w3 (.slice b2 (L - i) d2) (PS.drop i)) := g2 w3 HL3.out
        clear g1 g2 x1 BT his hcap
        go_wp2_with fail
        refine (HR2.out _ _ hgw3 TA.out).mono ?_
        rintro e w4 ⟨x4, rfl, h4, hg4⟩
        obtain ⟨a4, c4, rfl⟩ := h4.shape
        go_wp2_with fail
        refine (HR3.out _ _ (grown_trans hgw3 hg4) (TB.out.grown hg4)).mono ?_
        rintro e w5 ⟨x5, rfl, h5, hg5⟩
        obtain ⟨a5, c5, rfl⟩ := h5.shape
        have hg35 := grown_trans hg4 hg5
        go_wp2_with fail
        refine (HR1.out _ _ (grown_trans hgw3 hg35) (HL3.out.grown hg35)).mono ?_
        rintro e w6 ⟨x6, rfl, h6, hg6⟩
        obtain ⟨a6, c6, rfl⟩ := h6.shape
        have hg36 := grown_trans hg35 hg6
        go_wp2_with fail
        refine (HDP.out _ _ _ (grown_trans hgw3 hg36) (h4.grown (grown_trans hg5 hg6)) (h5.grown hg6)).mono ?_
        rintro e w7 ⟨x7, rfl, h7, hg7⟩
        obtain ⟨a7, c7, rfl⟩ := h7.shape
        have hg37 := grown_trans hg36 hg7
        have SM : Hid (Calls Tryd.prog 9 #[.slice a6 X.length c6, .slice a7 X.length c7] w7 fun e w' => e = .returned (.bool true) ∧ w' = w7) := by
          have := same_any w7 _ _ X X (h6.grown hg7) h7
          rw [decide_eq_true rfl] at this
          exact this
        have j1 : (0 : Int) < (i : Int) := by omega
        clear h4 h5 h6 h7 r1 r2 TA TB HR1 HR2 HR3 HDP
        go_wp2_with fail
        refine SM.out.mono ?_
        rintro e w8 ⟨rfl, rfl⟩
        go_wp2
        go_ret
        exact ⟨rfl, grown_trans hgw3 hg37⟩
      · rw [decide_eq_false his] at BT
        go_wp2_with fail
        refine BT.out.mono ?_
        rintro e w3 ⟨rfl, hg3⟩
        have hg23 := grown_trans hgr hg3
        go_wp2_with fail
        go_roundw
        case rel =>
          first
            | exact ⟨i + 1, by omega, by go_num, hg23⟩
            | ((repeat apply Exists.intro); refine ⟨⟨i + 1, by omega, ?_, hg23⟩, rfl⟩; go_num)
        case measure => simp [intOf]; omega
  · have HRL : Hid ((rootL PS).length = 32) := rl0
    have t1 : (PS.length : Int) < 2 := by omega
    generalize rootL PS = X at *
    clear hR hPt hBt ht hT rl0 h2
    go_enter Tryd.func4, Tryd.ntmps4
    go_wp2_with fail
    refine HM.out.mono ?_
    rintro e w1 ⟨v1, rfl, ho1, hg1⟩
    obtain ⟨a1, c1, rfl⟩ := ho1.shape
    go_wp2_with fail
    refine (HR1.out _ _ hg1 ho1.list).mono ?_
    rintro e w2 ⟨x2, rfl, h2, hg2⟩
    obtain ⟨a2, c2, rfl⟩ := h2.shape
    rw [HRL.out]
    go_wp2
    go_ret
    exact ⟨rfl, grown_trans hg1 hg2⟩
end Go.Proofs.YtdpoickggdgddacDoor
