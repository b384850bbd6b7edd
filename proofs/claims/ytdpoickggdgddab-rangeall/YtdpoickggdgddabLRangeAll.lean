/-
  The walk of canopykeep.RangeAll, over what the code must keep.
-/
import Derived.Test.YtdpoickggdgddabTCRange
import Derived.Test.YtdpoickggdgddabKMakeS
import Derived.Test.YtdpoickggdgddabRangePure
import Derived.Test.YtdpoickggdgddabKPairs
import Derived.Test.YtdpoickggdgddabKeyO
namespace Go.Proofs.Ytdpoickggdgddab
open Go.RowKit
theorem klt_le (a b : List UInt8) : (klt a b || a == b) = !klt b a := by
  cases h : klt a b with
  | true => rw [klt_asymm _ _ h]; rfl
  | false =>
    by_cases e : a = b
    · subst e; rw [klt_irrefl]; simp
    · rw [klt_total _ _ h e]; simp [e]
/-- So many bytes of 255, then noughts. -/
def tops (m : Nat) : List UInt8 := List.replicate m 255 ++ List.replicate (16 - m) 0
theorem tops_len (m : Nat) (h : m ≤ 16) : (tops m).length = 16 := by simp [tops]; omega
theorem tops_set (m : Nat) (h : m < 16) : (tops m).set m 255 = tops (m + 1) := by
  unfold tops
  rw [List.set_append_right _ _ (by simp), List.length_replicate, Nat.sub_self, List.replicate_succ', List.append_assoc]
  obtain ⟨k, hk⟩ : ∃ k, 16 - m = k + 1 := ⟨15 - m, by omega⟩
  rw [hk, List.replicate_succ, List.set_cons_zero, show 16 - (m + 1) = k by omega]
  rfl
theorem tops_all : tops 16 = lastKey := by decide
theorem tops_none : tops 0 = zeros 16 := rfl
theorem range_grow (l : PL) (f t : List UInt8) (m : Nat) (h : m < l.length) (b : Bool) (hb : (!klt (l.getD m ([], [])).1 f && !klt t (l.getD m ([], [])).1) = b) : rangeL (l.take (m + 1)) f t = if b = true then rangeL (l.take m) f t ++ [l.getD m ([], [])] else rangeL (l.take m) f t := by
  rw [range_take l f t m h, hb]
set_option maxRecDepth 100000 in
set_option maxHeartbeats 2000000 in
theorem rangeAll_walk (hM : KMakeOK) (hR : TRangeOK) (w : World) (v k x : Value) (l : PL) (kb xb : List UInt8) (hv : PairsIs w v l) (hk : SliceIs w k kb) (hx : SliceIs w x xb) (hl : Fits l) (hkl : kb.length ≤ maxLen) (hxl : xb.length ≤ maxLen) :
    Calls Try.prog 6 #[v, k, x] w fun e w' => e = .returned (.bool true) ∧ w.grownBy w' none := by
  have hT := mkT_tree l 30 (by omega)
  have hTl := mkT_len l 30 (by omega)
  have hK := keyF_len kb
  have hX := keyF_len xb
  have HM : Hid (Calls Try.prog 8 #[v, .int .i64 30] w fun e w' => ∃ v', e = .returned v' ∧ OwnP w.heap.size w' v' (mkT (l.take 30)) ∧ w.grownBy w' none) := hM w v l 30 hv hl (by omega)
  have KY1 : Hid (∀ w', w.grownBy w' none → Calls Try.prog 9 #[k] w' fun e w'' => ∃ v', e = .returned v' ∧ Own w'.heap.size w'' v' (keyF kb) ∧ w'.grownBy w'' none) := fun w' hg => keyO_any w' k kb (hk.grown hg) hkl
  have KY2 : Hid (∀ w', w.grownBy w' none → Calls Try.prog 9 #[x] w' fun e w'' => ∃ v', e = .returned v' ∧ Own w'.heap.size w'' v' (keyF xb) ∧ w'.grownBy w'' none) := fun w' hg => keyO_any w' x xb (hx.grown hg) hxl
  generalize mkT (l.take 30) = PS at *
  generalize keyF kb = K at *
  generalize keyF xb = X at *
  clear hM hv hk hx hl hkl hxl
  obtain ⟨p1, p2, p3⟩ := rangeF_ok PS K X hT hK hX
  obtain ⟨q1, q2, q3⟩ := rangeF_ok PS [0] lastKey hT (by simp) (by rw [lastKey_len]; omega)
  rw [range_all PS hT] at q2
  obtain ⟨r1, r2⟩ := rangeE_nil PS lastKey hT
  have HR1 : Hid (∀ w' v1 v2 v3, PairsIs w' v1 PS → SliceIs w' v2 K → SliceIs w' v3 X → Calls Try.prog 17 #[v1, v2, v3] w' fun e w'' => ∃ y, e = .returned (.tuple #[y, .int .i64 0]) ∧ PairsIs w'' y (rangeL PS K X) ∧ w'.grownBy w'' none) := fun w' v1 v2 v3 h1 h2 h3 => by
    have := hR w' v1 v2 v3 PS K X h1 h2 h3 hT.fits (by omega) (by omega)
    rw [p1, p2] at this
    exact this
  have HR2 : Hid (∀ w' v1 v2 v3, PairsIs w' v1 PS → SliceIs w' v2 [0] → SliceIs w' v3 lastKey → Calls Try.prog 17 #[v1, v2, v3] w' fun e w'' => ∃ y, e = .returned (.tuple #[y, .int .i64 0]) ∧ PairsIs w'' y PS ∧ w'.grownBy w'' none) := fun w' v1 v2 v3 h1 h2 h3 => by
    have := hR w' v1 v2 v3 PS [0] lastKey h1 h2 h3 hT.fits (by simp) (by rw [lastKey_len]; omega)
    rw [q1, q2] at this
    exact this
  have HR3 : Hid (∀ w' v1 v2 v3, PairsIs w' v1 PS → SliceIs w' v2 [] → SliceIs w' v3 lastKey → Calls Try.prog 17 #[v1, v2, v3] w' fun e w'' => ∃ y, e = .returned (.tuple #[y, .int .i64 1]) ∧ w'.grownBy w'' none) := fun w' v1 v2 v3 h1 h2 h3 => by
    have := hR w' v1 v2 v3 PS [] lastKey h1 h2 h3 hT.fits (by simp) (by rw [lastKey_len]; omega)
    rw [r1, r2] at this
    refine this.mono ?_
    rintro e w2 ⟨y, he, _, hg⟩
    exact ⟨y, he, hg⟩
  have hroom := hT.room
  have HTK : Hid (PS.take PS.length = PS) := List.take_length
  have hrl := range_len PS K X
  have HG : Hid (rangeL PS K X = rangeL (PS.take PS.length) K X) := by show _ = _; rw [List.take_length]
  have HG0 : Hid (rangeL (PS.take 0) K X = []) := rfl
  clear p1 p2 p3 q1 q2 q3 r1 r2 hT hR hK hX
  go_enter Try.func6, Try.ntmps6
  go_wp2_with fail
  refine HM.out.mono ?_
  rintro e w1 ⟨v1, rfl, ho1, hg1⟩
  obtain ⟨a1, c1, rfl⟩ := ho1.shape
  go_wp2_with fail
  refine (KY1.out _ hg1).mono ?_
  rintro e w2 ⟨v2, rfl, ho2, hg2⟩
  obtain ⟨a2, c2, rfl⟩ := ho2.shape
  have hg12 := grown_trans hg1 hg2
  go_wp2_with fail
  refine (KY2.out _ hg12).mono ?_
  rintro e w3 ⟨v3, rfl, ho3, hg3⟩
  obtain ⟨a3, c3, rfl⟩ := ho3.shape
  have hg13 := grown_trans hg12 hg3
  go_wp2_with fail
  refine (HR1.out _ _ _ _ (ho1.grownNone (grown_trans hg2 hg3)).list (ho2.grownNone hg3).slice ho3.slice).mono ?_
  rintro e w4 ⟨v4, rfl, h4, hg4⟩
  obtain ⟨a4, c4, rfl⟩ := h4.shape
  have hg14 := grown_trans hg13 hg4
  have HL : Hid (PairsIs w4 (.slice a1 PS.length c1) PS) := (ho1.grownNone (grown_trans hg2 (grown_trans hg3 hg4))).list
  have HK : Hid (SliceIs w4 (.slice a2 K.length c2) K) := (ho2.grownNone (grown_trans hg3 hg4)).slice
  have HX : Hid (SliceIs w4 (.slice a3 X.length c3) X) := (ho3.grownNone hg4).slice
  have HGot : Hid (PairsIs w4 (.slice a4 (rangeL PS K X).length c4) (rangeL PS K X)) := h4
  clear ho1 ho2 ho3 h4 hg1 hg2 hg3 hg4 hg12 hg13 KY1 KY2 HM HR1
  go_wp2_with fail
  go_loopw [12, 13] (fun cv i wr => ∃ m : Nat, m ≤ PS.length ∧ i = .int .i64 (m : Int) ∧ OwnP w4.heap.size wr cv (rangeL (PS.take m) K X) ∧ w4.grownBy wr none) (fun _ i _ => PS.length - (intOf i).toNat)
  case atStart => exact ⟨0, by omega, rfl, by rw [HG0.out]; exact ownP_nil _ _, grown_refl _ _⟩
  case round =>
    obtain ⟨m, hm, rfl, hown, hgr⟩ := hrel
    obtain ⟨ca, ccap, rfl⟩ := hown.shape
    by_cases hlt : m < PS.length
    · have t1 : (m : Int) < (PS.length : Int) := by omega
      obtain ⟨pb, po, rfl, hat⟩ := HL.out.at m hlt
      obtain ⟨vk, vv, d1', d2', s1', s2'⟩ := hat
      have d1 := hgr.cell d1' (by simp)
      have d2 := hgr.cell d2' (by simp)
      have s1 := s1'.grown hgr
      have s2 := s2'.grown hgr
      have PK : Hid (PartIs w4.heap.size wr vk (PS.getD m ([], [])).1) := s1'.part hgr _ (Nat.le_refl _)
      have PV : Hid (PartIs w4.heap.size wr vv (PS.getD m ([], [])).2) := s2'.part hgr _ (Nat.le_refl _)
      obtain ⟨z, hz⟩ : ∃ z : Bool, (!klt (PS.getD m ([], [])).1 K && !klt X (PS.getD m ([], [])).1) = z := ⟨_, rfl⟩
      have HZ : Hid ((!klt (PS.getD m ([], [])).1 K && !klt X (PS.getD m ([], [])).1) = z) := hz
      have HN : Hid (rangeL (PS.take (m + 1)) K X = if z = true then rangeL (PS.take m) K X ++ [PS.getD m ([], [])] else rangeL (PS.take m) K X) := range_grow PS K X m hlt z hz
      have hTl2 : (rangeL (PS.take m) K X).length ≤ 60 := by have := range_len (PS.take m) K X; simp at this; omega
      clear hz
      have S1 : Hid (SliceIs wr vk (PS.getD m ([], [])).1) := s1
      have HOW : Hid (OwnP w4.heap.size wr (.slice ca (rangeL (PS.take m) K X).length ccap) (rangeL (PS.take m) K X)) := hown
      generalize hq : PS.getD m ([], []) = P at *
      have HPm : Hid (PS.getD m ([], []) = P) := hq
      generalize rangeL (PS.take m) K X = R at *
      have cv1 : ∀ n, (convert 23 9 vk).run Try.prog (wr.drewN n) = .ok (.string (textOf P.1)) (wr.drewN n) := fun n => conv_bytes _ _ _ (S1.out.drewN n)
      have cv2 : ∀ n, (convert 23 9 (.slice a2 K.length c2)).run Try.prog (wr.drewN n) = .ok (.string (textOf K)) (wr.drewN n) := fun n => conv_bytes _ _ _ ((HK.out.grown hgr).drewN n)
      have cv3 : ∀ n, (convert 23 9 (.slice a3 X.length c3)).run Try.prog (wr.drewN n) = .ok (.string (textOf X)) (wr.drewN n) := fun n => conv_bytes _ _ _ ((HX.out.grown hgr).drewN n)
      obtain ⟨ka, kc, rfl⟩ := s1.shape
      obtain ⟨va, vc, rfl⟩ := s2.shape
      clear hq s1 s2 hown d1' d2' s1' s2'
      go_upto_region 9 with fail
      go_cut [58] (fun s58 wx => s58 = .bool z ∧ ∃ n, wx = wr.drewN n)
      case first =>
        have hz := HZ.out
        cases hk1 : klt P.1 K with
        | true =>
          have e1 : Op.bytesLess (textOf P.1).toList (textOf K).toList = true := by rw [textOf_list, textOf_list]; exact hk1
          have hz' : z = false := by rw [← hz, hk1]; rfl
          subst hz'
          clear hz
          go_quiet (fail)
          go_wp2_with fail
          go_meet
          case rel => exact ⟨rfl, _, rfl⟩
        | false =>
          have e1 : Op.bytesLess (textOf P.1).toList (textOf K).toList = false := by rw [textOf_list, textOf_list]; exact hk1
          have HLE : Hid ((Op.bytesLess (textOf P.1).toList (textOf X).toList || (textOf P.1).toList == (textOf X).toList) = z) := by
            show _ = _
            rw [textOf_list, textOf_list, ← hz, hk1]
            exact klt_le P.1 X
          clear hz
          go_quiet (fail)
          go_wp2_with fail
          go_meet
          case rel => exact ⟨by rw [HLE.out], _, rfl⟩
      case rest =>
        obtain ⟨rfl, n, rfl⟩ := hcut
        clear cv1 cv2 cv3
        have hgr2 : w4.grownBy (wr.drewN n) none := grown_drewN hgr n
        have hsz := hgr.size
        have d3 : (wr.drewN n).cell? ⟨pb, po + m * 2, none⟩ = some (.slice ka P.1.length kc) := d1
        have d4 : (wr.drewN n).cell? ⟨pb, po + m * 2 + 1, none⟩ = some (.slice va P.2.length vc) := d2
        obtain ⟨W5, hW5⟩ : ∃ W5 : World, W5 = wr.drewN n := ⟨_, rfl⟩
        have HO5 : Hid (OwnP w4.heap.size W5 (.slice ca R.length ccap) R) := by rw [hW5]; exact HOW.out.grownNone (grown_drewN (grown_refl _ _) n)
        have PK5 : Hid (PartIs w4.heap.size W5 (.slice ka P.1.length kc) P.1) := by rw [hW5]; exact PK.out.kept (grown_drewN (grown_refl _ none) n) (.inl rfl)
        have PV5 : Hid (PartIs w4.heap.size W5 (.slice va P.2.length vc) P.2) := by rw [hW5]; exact PV.out.kept (grown_drewN (grown_refl _ none) n) (.inl rfl)
        have hsz5 : w4.heap.size ≤ W5.heap.size := by rw [hW5]; exact hsz
        rw [← hW5] at d3 d4 hgr2 ⊢
        clear hW5 HOW PK PV d1 d2 hgr hsz S1 HZ
        cases z with
        | true =>
          have HN2 : Hid (rangeL (PS.take (m + 1)) K X = R ++ [P]) := by show _ = _; rw [HN.out, if_pos rfl]
          clear HN
          go_wp2_with (at_builtin; refine wpList_append_pair (w0 := W5) rfl _ _ rfl w4.heap.size (.slice ca R.length ccap) R rfl HO5.out _ _ P PK5.out PV5.out rfl W5.heap.size rfl rfl (by omega) hsz5 ?_; intro v6 w6 ho6 hg6)
          have hgw := grown_ownP (grown_alloc hgr2 _) (HO5.out.alloc _) hg6
          go_roundw
          case rel =>
            first
              | exact ⟨m + 1, by omega, by go_num, by rw [HN2.out]; exact ho6, hgw⟩
              | ((repeat apply Exists.intro); refine ⟨⟨m + 1, by omega, ?_, by rw [HN2.out]; exact ho6, hgw⟩, rfl⟩; go_num)
          case measure => simp [intOf]; omega
        | false =>
          have HN2 : Hid (rangeL (PS.take (m + 1)) K X = R) := by show _ = _; rw [HN.out, if_neg (by simp)]
          clear HN
          go_wp2_with fail
          go_roundw
          case rel =>
            first
              | exact ⟨m + 1, by omega, by go_num, by rw [HN2.out]; exact HO5.out, hgr2⟩
              | ((repeat apply Exists.intro); refine ⟨⟨m + 1, by omega, ?_, by rw [HN2.out]; exact HO5.out, hgr2⟩, rfl⟩; go_num)
          case measure => simp [intOf]; omega
    · obtain rfl : m = PS.length := by omega
      rw [← HG.out] at hown ⊢
      have HW : Hid (PairsIs wr (.slice ca (rangeL PS K X).length ccap) (rangeL PS K X)) := hown.list
      clear hown
      have kmk := fun (W : World) => make_bytes W 16 16 rfl (by omega)
      have B0 : Bytes (wr.alloc (.cells (bytesOf (zeros 16)) 5)) wr.heap.size (tops 0) := Bytes.new wr 5 (zeros 16)
      have hga : wr.grownBy (wr.alloc (.cells (bytesOf (zeros 16)) 5)) none := World.grownBy_alloc _ _ _
      have HGT : Hid (PairsIs wr (.slice a4 (rangeL PS K X).length c4) (rangeL PS K X)) := HGot.out.grown hgr
      have HL6 : Hid (PairsIs wr (.slice a1 PS.length c1) PS) := HL.out.grown hgr
      have hgw6 := grown_trans hg14 hgr
      generalize rangeL PS K X = R at *
      clear HGot HL HK HX HG HG0 hgr hg14
      obtain ⟨W6, hW6⟩ : ∃ W6 : World, W6 = wr := ⟨_, rfl⟩
      subst hW6
      go_wp2_with fail
      go_loopw [15] (fun i wr => ∃ m : Nat, m ≤ 16 ∧ i = .int .i64 (m : Int) ∧ Bytes wr W6.heap.size (tops m) ∧ W6.grownBy wr none) (fun i _ => 16 - (intOf i).toNat)
      case atStart => exact ⟨0, by omega, rfl, B0, hga⟩
      case round =>
        clear B0 hga
        obtain ⟨m, hm, rfl, hb, hgr⟩ := hrel
        by_cases hlt : m < 16
        · have t1 : (m : Int) < 16 := by omega
          have HB : Hid (Bytes wr W6.heap.size (tops (m + 1 - 1))) := hb
          have d1 := hb.cell m (by rw [tops_len m hm]; omega)
          have d2 := hb.frozen m
          have HB2 : Hid (Bytes (wr.setCell ⟨W6.heap.size, m, none⟩ (.int .u8 255)) W6.heap.size (tops (m + 1))) := by
            have := hb.set m 255
            rw [tops_set m hlt] at this
            exact this
          generalize ((tops m).getD m 0).toNat = q at *
          clear hb HB
          go_wp2_with fail
          go_roundw
          case rel =>
            have hgs := grown_setNew hgr W6.heap.size (Nat.le_refl _) m (.int .u8 255)
            first
              | exact ⟨m + 1, by omega, by go_num, HB2.out, hgs⟩
              | ((repeat apply Exists.intro); refine ⟨⟨m + 1, by omega, ?_, HB2.out, hgs⟩, rfl⟩; go_num)
          case measure => simp [intOf]; omega
        · obtain rfl : m = 16 := by omega
          rw [tops_all] at hb
          have HLK : Hid (SliceIs wr (.slice (some ⟨W6.heap.size, 0, none⟩) 16 16) lastKey) := hb.slice 16 (by rw [lastKey_len]; omega)
          have hgw := grown_trans hgw6 hgr
          clear hb
          go_wp2_with fail
          refine (HR2.out _ _ _ _ ((HL6.out.grown hgr).grown (World.grownBy_alloc _ _ _)) (one_slice wr 0 _) (HLK.out.alloc _)).mono ?_
          rintro e w7 ⟨v7, rfl, h7, hg7⟩
          obtain ⟨a7, c7, rfl⟩ := h7.shape
          have hgr7 := grown_trans (World.grownBy_alloc wr (.cells #[.int .u8 0] 5) none) hg7
          have HLK7 : Hid (SliceIs w7 (.slice (some ⟨W6.heap.size, 0, none⟩) 16 16) lastKey) := HLK.out.grown hgr7
          have HL7 : Hid (PairsIs w7 (.slice a1 PS.length c1) PS) := HL6.out.grown (grown_trans hgr hgr7)
          go_wp2_with fail
          refine (HR3.out _ _ _ _ HL7.out (sliceIs_nil _) HLK7.out).mono ?_
          rintro e w8 ⟨v8, rfl, hg8⟩
          have hg68 := grown_trans hgr (grown_trans hgr7 hg8)
          have SP1 : Hid (Calls Try.prog 15 #[.slice a4 R.length c4, .slice ca R.length ccap] w8 fun e w' => e = .returned (.bool true) ∧ w8.grownBy w' none) := by
            have := ksamePairs_any w8 _ _ R R (HGT.out.grown hg68) (HW.out.grown hg68) (by omega)
            rw [decide_eq_true rfl] at this
            exact this
          have SP2 : Hid (∀ w', w8.grownBy w' none → Calls Try.prog 15 #[.slice a7 PS.length c7, .slice a1 PS.length c1] w' fun e w'' => e = .returned (.bool true) ∧ w'.grownBy w'' none) := fun w' hg => by
            have := ksamePairs_any w' _ _ PS PS (h7.grown (grown_trans hg8 hg)) (HL7.out.grown (grown_trans hg8 hg)) (by omega)
            rw [decide_eq_true rfl] at this
            exact this
          have hgw8 := grown_trans hgw6 hg68
          clear h7 HGT HW HL6 HL7 HLK HLK7 HR2 HR3
          go_wp2_with fail
          refine SP1.out.mono ?_
          rintro e w9 ⟨rfl, hg9⟩
          go_wp2_with fail
          refine (SP2.out _ hg9).mono ?_
          rintro e w10 ⟨rfl, hg10⟩
          go_wp2
          go_ret
          exact ⟨rfl, grown_trans hgw8 (grown_trans hg9 hg10)⟩
end Go.Proofs.Ytdpoickggdgddab
