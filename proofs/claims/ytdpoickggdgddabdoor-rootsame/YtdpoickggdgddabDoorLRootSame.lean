/-
  The walk of canopykeep.RootSame, over what the code must keep.
-/
import Derived.Test.YtdpoickggdgddabDoorPart4
import Derived.Test.YtdpoickggdgddabDoorPart3
import Derived.Test.YtdpoickggdgddabDoorPart2
import Derived.Test.YtdpoickggdgddabDoorKSame
import Derived.Test.YtdpoickggdgddabDoorKeyO
import Derived.Test.YtdpoickggdgddabDoorKFind
import Derived.Test.YtdpoickggdgddabDoorPicked
import Derived.Test.YtdpoickggdgddabDoorIntsM
namespace Go.Proofs.YtdpoickggdgddabDoor
open Go.RowKit
set_option maxRecDepth 100000 in
set_option maxHeartbeats 1000000 in
/-- The closure that puts a pair into the variable. -/
theorem putBox_any (hP : TPutOK) (w : World) (vk vv : Value) (p : Pr) (b : Nat) (T : PL) (hk : SliceIs w vk p.1) (hv : SliceIs w vv p.2) (hb : BoxIs w b T) (hT : Tree T) (hp : (1 ≤ p.1.length ∧ p.1.length ≤ 16) ∧ p.2.length ≤ 32) (hl : T.length < 60) :
    Calls Tryd.prog 5 #[.agg #[vk, vv], .pointer (some ⟨b, 0, none⟩)] w fun e w' => e = .returned (.bool true) ∧ BoxIs w' b (putL T p) ∧ w.grownBy w' (some b) := by
  obtain ⟨a, cap, hb1, hb2⟩ := hb
  obtain ⟨p1, p2, p3⟩ := putE_ok T p hT hp hl
  have hga : w.grownBy (w.alloc (.cells #[vk, vv] 28)) none := World.grownBy_alloc _ _ _
  have HP : Hid (Calls Tryd.prog 6 #[.slice a T.length cap, .agg #[vk, vv]] (w.alloc (.cells #[vk, vv] 28)) fun e w'' => ∃ y, e = .returned (.tuple #[y, .int .i64 0]) ∧ PairsIs w'' y (putL T p) ∧ (w.alloc (.cells #[vk, vv] 28)).grownBy w'' none) := by
    have := hP (w.alloc (.cells #[vk, vv] 28)) (.slice a T.length cap) (.agg #[vk, vv]) T p (hb2.grown hga) ⟨vk, vv, rfl, hk.grown hga, hv.grown hga⟩ hT.fits (by omega) (by omega)
    rw [p1, p2] at this
    exact this
  have HB : Hid (w.heap[b]? = some (.cells #[.slice a T.length cap] 25)) := hb1
  have hlt : b < w.heap.size := (Array.getElem?_eq_some_iff.1 hb1).1
  obtain ⟨c1, c2⟩ := box_cell (pair_old hga hb1)
  obtain ⟨ka, kc, rfl⟩ := hk.shape
  obtain ⟨va, vc, rfl⟩ := hv.shape
  generalize putL T p = R at *
  clear hb1 hb2 hk hv p1 p2 p3 hP
  go_enter Tryd.func5, Tryd.ntmps5
  go_wp2_with fail
  refine HP.out.mono ?_
  rintro e w2 ⟨y, rfl, hy, hg2⟩
  obtain ⟨ya, yc, rfl⟩ := hy.shape
  have hg := grown_trans hga hg2
  have hb2 := pair_old hg HB.out
  obtain ⟨c3, c4⟩ := box_cell hb2
  have HR : Hid (BoxIs (w2.setCell ⟨b, 0, none⟩ (.slice ya R.length yc)) b R) := box_store hb2 hy
  clear hy
  have hgb : w.grownBy (w2.setCell ⟨b, 0, none⟩ (.slice ya R.length yc)) (some b) := grown_set ⟨hg.os, hg.tape, hg.output, hg.size, fun i hi _ => hg.block i hi (by simp)⟩ 0 _
  go_wp2
  go_ret
  exact ⟨rfl, HR.out, hgb⟩
theorem rootTree (hR : TRootOK) (w : World) (v : Value) (l : PL) (hv : PairsIs w v l) (hT : Tree l) (ht : Tabs w) :
    Calls Tryd.prog 11 #[v] w fun e w' => ∃ x, e = .returned (.tuple #[x, .int .i64 0]) ∧ SliceIs w' x (rootL l) ∧ w.grownBy w' none := by
  have := hR w v l hv hT.fits ht
  rw [tree_fault l hT, rootF, if_pos (tree_fault l hT)] at this
  exact this
/-- What the loops keep. -/
structure Kept1 (w1 wr : World) (kv : Value) (X : List UInt8) (T : PL) : Prop where
  box : BoxIs wr w1.heap.size T
  key : Own (w1.heap.size + 1) wr kv X
  grown : w1.grownBy wr none
theorem Kept1.step {w1 wr w2 : World} {kv : Value} {X : List UInt8} {T R : PL} (h : Kept1 w1 wr kv X T) (hb : BoxIs w2 w1.heap.size R) (hg : wr.grownBy w2 (some w1.heap.size)) : Kept1 w1 w2 kv X R := by
  refine ⟨hb, h.key.grown hg ?_, grown_new h.grown (Nat.le_refl _) hg⟩
  cases hv : kv.ownBlock with
  | none => exact .inl rfl
  | some k => have := (h.key.lt k hv).1; exact .inr (by simp; omega)
theorem Kept1.more {w1 wr w2 : World} {kv : Value} {X : List UInt8} {T : PL} (h : Kept1 w1 wr kv X T) (hg : wr.grownBy w2 none) : Kept1 w1 w2 kv X T :=
  ⟨h.box.grown hg, h.key.grownNone hg, grown_trans h.grown hg⟩
set_option maxRecDepth 100000 in
set_option maxHeartbeats 2000000 in
theorem rootSame_walk (hM : KMakeOK) (hP : TPutOK) (hD : TDelOK) (hR : TRootOK) (w : World) (v o x : Value) (l : PL) (zs : List Int) (xb : List UInt8) (hv : PairsIs w v l) (ho : IntsIs w o zs) (hx : SliceIs w x xb) (hl : Fits l) (hzl : zs.length ≤ maxLen) (hxl : xb.length ≤ maxLen) (ht : Tabs w) :
    Calls Tryd.prog 3 #[v, o, x] w fun e w' => e = .returned (.bool true) ∧ w.grownBy w' none := by
  have hT := mkT_tree l 16 (by omega)
  have hTl := mkT_len l 16 (by omega)
  have hX := keyF_len xb
  have HM : Hid (Calls Tryd.prog 4 #[v, .int .i64 16] w fun e w' => ∃ v', e = .returned v' ∧ OwnP w.heap.size w' v' (mkT (l.take 16)) ∧ w.grownBy w' none) := hM w v l 16 hv hl (by omega)
  have KY : Hid (∀ w', w.grownBy w' none → Calls Tryd.prog 7 #[x] w' fun e w'' => ∃ v', e = .returned v' ∧ Own w'.heap.size w'' v' (keyF xb) ∧ w'.grownBy w'' none) := fun w' hg => keyO_any w' x xb (hx.grown hg) hxl
  have HZ : Hid (IntsIs w o zs) := ho
  obtain ⟨za, zc, rfl⟩ := ho.shape
  generalize mkT (l.take 16) = PS at *
  generalize keyF xb = X at *
  clear hM hv hx hl hxl ho
  have HPut : Hid (∀ (w' : World) (vk vv : Value) (p : Pr) (b : Nat) (T : PL), SliceIs w' vk p.1 → SliceIs w' vv p.2 → BoxIs w' b T → Tree T → (1 ≤ p.1.length ∧ p.1.length ≤ 16) ∧ p.2.length ≤ 32 → T.length < 60 → Calls Tryd.prog 5 #[.agg #[vk, vv], .pointer (some ⟨b, 0, none⟩)] w' fun e w'' => e = .returned (.bool true) ∧ BoxIs w'' b (putL T p) ∧ w'.grownBy w'' (some b)) := fun w' vk vv p b T h1 h2 h3 h4 h5 h6 => putBox_any hP w' vk vv p b T h1 h2 h3 h4 h5 h6
  have HDel : Hid (∀ (w' : World) (v1 v2 : Value) (T : PL), PairsIs w' v1 T → SliceIs w' v2 X → Tree T → Calls Tryd.prog 10 #[v1, v2] w' fun e w'' => ∃ y, e = .returned (.tuple #[y, .int .i64 0]) ∧ PairsIs w'' y (delL T X) ∧ w'.grownBy w'' none) := fun w' v1 v2 T h1 h2 hTT => by
    obtain ⟨d1, d2, d3⟩ := delF_ok T X hTT hX
    have := hD w' v1 v2 T X h1 h2 hTT.fits (by omega)
    rw [d1, d2] at this
    exact this
  have HRt : Hid (∀ w' v', w.grownBy w' none → PairsIs w' v' PS → Calls Tryd.prog 11 #[v'] w' fun e w'' => ∃ x, e = .returned (.tuple #[x, .int .i64 0]) ∧ SliceIs w'' x (rootL PS) ∧ w'.grownBy w'' none) := fun w' v' hg h => rootTree hR w' v' PS h hT (ht.grownNone hg)
  have hRL := rootL_len PS
  have HRL : Hid ((rootL PS).length = 32) := hRL
  generalize rootL PS = RT at *
  have HPS : Hid (Tree PS) := hT
  have HStart : Hid (OnWay PS X (putL [] (X, [9])) 0) := onWay_start PS X [9] hX (by simp)
  have HFind : Hid (∀ (w' : World) (v1 v2 : Value), PairsIs w' v1 PS → SliceIs w' v2 X → Calls Tryd.prog 8 #[v1, v2] w' fun e w'' => ∃ i : Int, e = .returned (.tuple #[.int .i64 i, .bool (getF PS X).isSome]) ∧ w'.grownBy w'' none) := fun w' v1 v2 h1 h2 => find_any w' v1 v2 PS X h1 h2 (by omega)
  have HHad : Hid (∀ T, OnWay PS X T PS.length → (getF PS X).isSome = true → T = PS) := fun T h hx => onWay_had h hT hx
  have HNot : Hid (∀ T, OnWay PS X T PS.length → (getF PS X).isSome = false → delL T X = PS) := fun T h hx => onWay_del h hT hx
  generalize (getF PS X).isSome = G at *
  have HX : Hid (1 ≤ X.length ∧ X.length ≤ 16) := hX
  unfold maxLen at hzl
  clear hT hP hD hR ht hRL hX
  go_enter Tryd.func3, Tryd.ntmps3
  go_wp2_with fail
  refine HM.out.mono ?_
  rintro e w1 ⟨v1, rfl, ho1, hg1⟩
  obtain ⟨a1, c1, rfl⟩ := ho1.shape
  have HL : Hid (PairsIs w1 (.slice a1 PS.length c1) PS) := ho1.list
  have hga : w1.grownBy (w1.alloc (.cells #[.slice none 0 0] 25)) none := World.grownBy_alloc _ _ _
  have BX0 : Hid (BoxIs (w1.alloc (.cells #[.slice none 0 0] 25)) w1.heap.size []) := ⟨none, 0, heap_alloc_new w1 _, pairsIs_nil _⟩
  clear ho1
  go_wp2_with fail
  refine (KY.out _ (grown_trans hg1 hga)).mono ?_
  rintro e w2 ⟨kv, rfl, ok, hg2⟩
  rw [World.size_alloc] at ok
  obtain ⟨ka, kc, rfl⟩ := ok.shape
  have hg12 := grown_trans hga hg2
  have HK2 : Hid (Kept1 w1 w2 (.slice ka X.length kc) X []) := ⟨BX0.out.grown hg2, ok, hg12⟩
  clear ok BX0
  go_wp2_with fail
  refine (HFind.out _ _ _ (HL.out.grown hg12) HK2.out.key.slice).mono ?_
  rintro e w3 ⟨fi, rfl, hg3⟩
  have hga3 : w3.grownBy (w3.alloc (.cells #[.int .u8 9] 5)) none := World.grownBy_alloc _ _ _
  have HK3 : Hid (Kept1 w1 (w3.alloc (.cells #[.int .u8 9] 5)) (.slice ka X.length kc) X []) := (HK2.out.more hg3).more hga3
  have S9 : Hid (SliceIs (w3.alloc (.cells #[.int .u8 9] 5)) (.slice (some ⟨w3.heap.size, 0, none⟩) 1 1) [9]) := one_slice w3 9 5
  clear HK2 HFind
  go_wp2_with fail
  refine (HPut.out _ _ _ (X, [9]) w1.heap.size [] HK3.out.key.slice S9.out HK3.out.box tree_nil ⟨HX.out, by simp⟩ (by simp)).mono ?_
  rintro e w4 ⟨rfl, hb4, hg4⟩
  have HK4 : Hid (Kept1 w1 w4 (.slice ka X.length kc) X (putL [] (X, [9]))) := HK3.out.step hb4 hg4
  have hlen1 : (putL [] (X, ([9] : List UInt8))).length ≤ 1 := put_len [] (X, [9])
  generalize putL [] (X, ([9] : List UInt8)) = T0 at *
  clear HK3 S9 hg3 hg4 hb4 hga3 hg2 hg12 hga HM KY
  go_wp2_with fail
  go_loopw [13] (fun si wr => ∃ (m : Nat) (T : PL), m ≤ 20 ∧ m ≤ zs.length ∧ si = .int .i64 (m : Int) ∧ OnWay PS X T 0 ∧ T.length ≤ 1 + m ∧ Kept1 w1 wr (.slice ka X.length kc) X T) (fun si _ => 20 - (intOf si).toNat)
  case atStart => exact ⟨0, T0, by omega, by omega, rfl, HStart.out, by omega, HK4.out⟩
  case round =>
    clear HK4 HStart hlen1
    obtain ⟨m, T, hm20, hmz, rfl, hway, hTlen, hkept⟩ := hrel
    have HW : Hid (OnWay PS X T 0) := hway
    have HKR : Hid (Kept1 w1 wr (.slice ka X.length kc) X T) := hkept
    clear hway hkept
    obtain ⟨z, hz⟩ : ∃ z : Bool, decide (m < zs.length ∧ m < 20 ∧ 0 < PS.length) = z := ⟨_, rfl⟩
    have HZZ : Hid (decide (m < zs.length ∧ m < 20 ∧ 0 < PS.length) = z) := hz
    go_upto_region 9 with fail
    go_cut [50] (fun s50 wx => s50 = .bool z ∧ wx = wr)
    case first =>
      by_cases c1 : m < zs.length
      · have t1 : (m : Int) < (zs.length : Int) := by omega
        by_cases c2 : m < 20
        · have t2 : (m : Int) < 20 := by omega
          by_cases c3 : 0 < PS.length
          · have t3 : (0 : Int) < (PS.length : Int) := by omega
            have hz' : z = true := by rw [← hz]; exact decide_eq_true ⟨c1, c2, c3⟩
            subst hz'
            clear hz
            go_wp2_with fail
            go_meet
            case rel => exact ⟨rfl, rfl⟩
          · have t3 : ¬ (0 : Int) < (PS.length : Int) := by omega
            have hz' : z = false := by rw [← hz]; exact decide_eq_false (fun h => c3 h.2.2)
            subst hz'
            clear hz
            go_wp2_with fail
            go_meet
            case rel => exact ⟨rfl, rfl⟩
        · have t2 : ¬ (m : Int) < 20 := by omega
          have hz' : z = false := by rw [← hz]; exact decide_eq_false (fun h => c2 h.2.1)
          subst hz'
          clear hz
          go_wp2_with fail
          go_meet
          case rel => exact ⟨rfl, rfl⟩
      · have t1 : ¬ (m : Int) < (zs.length : Int) := by omega
        have hz' : z = false := by rw [← hz]; exact decide_eq_false (fun h => c1 h.1)
        subst hz'
        clear hz
        go_wp2_with fail
        go_meet
        case rel => exact ⟨rfl, rfl⟩
    case rest =>
      obtain ⟨rfl, rfl⟩ := hcut
      clear hz
      cases z with
      | true =>
        have hc := of_decide_eq_true HZZ.out
        obtain ⟨k1, k2, k3⟩ := hc
        have t1 : (m : Int) < (zs.length : Int) := by omega
        have HKW := HKR.out.grown
        obtain ⟨zb, zo, rfl, d1, d2, d3⟩ := ((HZ.out.grown hg1).grown HKW).at m k1
        generalize zs.getD m 0 = zi at *
        go_wp2_with fail
        refine (picked_any zi (PS.length : Int) _ d2 d3 (by omega) (by omega)).mono ?_
        rintro e w5 ⟨j, rfl, hj, rfl⟩
        have hj2 : j < PS.length := by omega
        obtain ⟨pb, po, rfl, hat⟩ := (HL.out.grown HKW).at j hj2
        obtain ⟨vk, vv, e1, e2, s1, s2⟩ := hat
        have hok := HPS.out.pairs PS[j] (List.getElem_mem hj2)
        rw [show PS[j] = PS.getD j ([], []) by simp [hj2]] at hok
        obtain ⟨hway2, _⟩ := onWay_put HW.out HPS.out j hj2 (by omega)
        have PC : Hid (Calls Tryd.prog 5 #[.agg #[vk, vv], .pointer (some ⟨w1.heap.size, 0, none⟩)] w5 fun e w'' => e = .returned (.bool true) ∧ BoxIs w'' w1.heap.size (putL T (PS.getD j ([], []))) ∧ w5.grownBy w'' (some w1.heap.size)) := HPut.out w5 vk vv _ w1.heap.size T s1 s2 HKR.out.box HW.out.tree hok (by omega)
        have hlen2 := put_len T (PS.getD j ([], []))
        have HW2 : Hid (OnWay PS X (putL T (PS.getD j ([], []))) 0) := hway2
        obtain ⟨pa, pc, rfl⟩ := s1.shape
        obtain ⟨qa, qc, rfl⟩ := s2.shape
        generalize putL T (PS.getD j ([], [])) = T2 at *
        generalize PS.getD j ([], []) = PP at *
        clear s1 s2 hway2 hok d1 d2 d3
        have t5 : (j : Int) < (PS.length : Int) := hj
        go_wp2_with fail
        refine PC.out.mono ?_
        rintro e w6 ⟨rfl, hb6, hg6⟩
        have HK6 : Hid (Kept1 w1 w6 (.slice ka X.length kc) X T2) := HKR.out.step hb6 hg6
        clear hb6 hg6 e1 e2
        go_wp2_with fail
        go_roundw
        case rel =>
          first
            | exact ⟨m + 1, T2, by omega, by omega, by go_num, HW2.out, by omega, HK6.out⟩
            | ((repeat apply Exists.intro); refine ⟨⟨m + 1, T2, by omega, by omega, ?_, HW2.out, by omega, HK6.out⟩, rfl⟩; go_num)
        case measure => simp [intOf]; omega
      | false =>
        clear HZZ HZ
        go_wp2_with fail
        go_loopw [14] (fun si wr => ∃ (i : Nat) (T : PL), i ≤ PS.length ∧ si = .int .i64 (i : Int) ∧ OnWay PS X T i ∧ T.length ≤ 21 + i ∧ Kept1 w1 wr (.slice ka X.length kc) X T) (fun si _ => PS.length - (intOf si).toNat)
        case atStart => exact ⟨0, T, by omega, rfl, HW.out, by omega, HKR.out⟩
        case round =>
          clear HW HKR hTlen
          obtain ⟨i, T, hi, rfl, hway, hTlen, hkept⟩ := hrel
          have HW : Hid (OnWay PS X T i) := hway
          have HKR : Hid (Kept1 w1 wr (.slice ka X.length kc) X T) := hkept
          clear hway hkept
          have HKW := HKR.out.grown
          by_cases hlt : i < PS.length
          · have t1 : (i : Int) < (PS.length : Int) := by omega
            obtain ⟨pb, po, rfl, hat⟩ := (HL.out.grown HKW).at i hlt
            obtain ⟨vk, vv, e1, e2, s1, s2⟩ := hat
            have hok := HPS.out.pairs PS[i] (List.getElem_mem hlt)
            rw [show PS[i] = PS.getD i ([], []) by simp [hlt]] at hok
            have hway2 := onWay_next HW.out HPS.out hlt (by omega)
            have PC : Hid (Calls Tryd.prog 5 #[.agg #[vk, vv], .pointer (some ⟨w1.heap.size, 0, none⟩)] wr fun e w'' => e = .returned (.bool true) ∧ BoxIs w'' w1.heap.size (putL T (PS.getD i ([], []))) ∧ wr.grownBy w'' (some w1.heap.size)) := HPut.out wr vk vv _ w1.heap.size T s1 s2 HKR.out.box HW.out.tree hok (by omega)
            have hlen2 := put_len T (PS.getD i ([], []))
            have HW2 : Hid (OnWay PS X (putL T (PS.getD i ([], []))) (i + 1)) := hway2
            obtain ⟨pa, pc, rfl⟩ := s1.shape
            obtain ⟨qa, qc, rfl⟩ := s2.shape
            generalize putL T (PS.getD i ([], [])) = T2 at *
            generalize PS.getD i ([], []) = PP at *
            clear s1 s2 hway2 hok
            go_wp2_with fail
            refine PC.out.mono ?_
            rintro e w6 ⟨rfl, hb6, hg6⟩
            have HK6 : Hid (Kept1 w1 w6 (.slice ka X.length kc) X T2) := HKR.out.step hb6 hg6
            clear hb6 hg6 e1 e2
            go_wp2_with fail
            go_roundw
            case rel =>
              first
                | exact ⟨i + 1, T2, by omega, by go_num, HW2.out, by omega, HK6.out⟩
                | ((repeat apply Exists.intro); refine ⟨⟨i + 1, T2, by omega, ?_, HW2.out, by omega, HK6.out⟩, rfl⟩; go_num)
            case measure => simp [intOf]; omega
          · obtain rfl : i = PS.length := by omega
            obtain ⟨ba, bc, hbx, hbl⟩ := HKR.out.box
            obtain ⟨x1, x2⟩ := box_cell hbx
            have HBX : Hid (wr.heap[w1.heap.size]? = some (.cells #[.slice ba T.length bc] 25)) := hbx
            have HBL : Hid (PairsIs wr (.slice ba T.length bc) T) := hbl
            clear hbx hbl
            have hgw := grown_trans hg1 HKW
            cases G with
            | true =>
              have hTP := HHad.out T HW.out rfl
              subst hTP
              clear HHad HNot
              go_wp2_with fail
              refine (HRt.out _ _ hgw HBL.out).mono ?_
              rintro e w7 ⟨x7, rfl, h7, hg7⟩
              obtain ⟨a7, c7, rfl⟩ := h7.shape
              go_wp2_with fail
              refine (HRt.out _ _ (grown_trans hgw hg7) ((HL.out.grown HKW).grown hg7)).mono ?_
              rintro e w8 ⟨x8, rfl, h8, hg8⟩
              obtain ⟨a8, c8, rfl⟩ := h8.shape
              have SM : Hid (Calls Tryd.prog 12 #[.slice a7 RT.length c7, .slice a8 RT.length c8] w8 fun e w' => e = .returned (.bool true) ∧ w' = w8) := by
                have := same_any w8 _ _ RT RT (h7.grown hg8) h8
                rw [decide_eq_true rfl] at this
                exact this
              have hl1 : (RT.length : Int) = 32 := by have := HRL.out; omega
              clear h7 h8
              go_wp2_with fail
              refine SM.out.mono ?_
              rintro e w9 ⟨rfl, rfl⟩
              go_wp2
              go_ret
              exact ⟨rfl, grown_trans hgw (grown_trans hg7 hg8)⟩
            | false =>
              have hTD := HNot.out T HW.out rfl
              have DL : Hid (Calls Tryd.prog 10 #[.slice ba T.length bc, .slice ka X.length kc] wr fun e w'' => ∃ y, e = .returned (.tuple #[y, .int .i64 0]) ∧ PairsIs w'' y PS ∧ wr.grownBy w'' none) := by
                have := HDel.out wr _ _ T HBL.out HKR.out.key.slice HW.out.tree
                rw [hTD] at this
                exact this
              clear HHad HNot hTD
              go_wp2_with fail
              refine DL.out.mono ?_
              rintro e w6 ⟨y6, rfl, h6, hg6⟩
              obtain ⟨a6, c6, rfl⟩ := h6.shape
              obtain ⟨x3, x4⟩ := box_cell (pair_old hg6 HBX.out)
              have HB6 : Hid (BoxIs (w6.setCell ⟨w1.heap.size, 0, none⟩ (.slice a6 PS.length c6)) w1.heap.size PS) := box_store (pair_old hg6 HBX.out) h6
              have hg16 : w1.grownBy (w6.setCell ⟨w1.heap.size, 0, none⟩ (.slice a6 PS.length c6)) none := grown_setNew (grown_trans HKW hg6) _ (Nat.le_refl _) _ _
              obtain ⟨ra, rc, hrx, hrl⟩ := HB6.out
              obtain ⟨x5, x6⟩ := box_cell hrx
              have HRLs : Hid (PairsIs (w6.setCell ⟨w1.heap.size, 0, none⟩ (.slice a6 PS.length c6)) (.slice ra PS.length rc) PS) := hrl
              obtain ⟨W6, hW6⟩ : ∃ W6 : World, W6 = w6.setCell ⟨w1.heap.size, 0, none⟩ (.slice a6 PS.length c6) := ⟨_, rfl⟩
              have HW6 : Hid (W6 = w6.setCell ⟨w1.heap.size, 0, none⟩ (.slice a6 PS.length c6)) := hW6
              rw [← hW6] at HRLs hg16
              have hgw6 := grown_trans hg1 hg16
              clear h6 hrx hrl HB6 hW6 x6
              go_wp2_with fail
              rw [← HW6.out]
              refine (HRt.out _ _ hgw6 HRLs.out).mono ?_
              rintro e w7 ⟨x7, rfl, h7, hg7⟩
              obtain ⟨a7, c7, rfl⟩ := h7.shape
              go_wp2_with fail
              refine (HRt.out _ _ (grown_trans hgw6 hg7) ((HL.out.grown hg16).grown hg7)).mono ?_
              rintro e w8 ⟨x8, rfl, h8, hg8⟩
              obtain ⟨a8, c8, rfl⟩ := h8.shape
              have SM : Hid (Calls Tryd.prog 12 #[.slice a7 RT.length c7, .slice a8 RT.length c8] w8 fun e w' => e = .returned (.bool true) ∧ w' = w8) := by
                have := same_any w8 _ _ RT RT (h7.grown hg8) h8
                rw [decide_eq_true rfl] at this
                exact this
              have hl1 : (RT.length : Int) = 32 := by have := HRL.out; omega
              clear h7 h8
              go_wp2_with fail
              refine SM.out.mono ?_
              rintro e w9 ⟨rfl, rfl⟩
              go_wp2
              go_ret
              exact ⟨rfl, grown_trans hgw6 (grown_trans hg7 hg8)⟩
end Go.Proofs.YtdpoickggdgddabDoor
