/-
  The walk of canopykeep.RangeParts, over what the code must keep.
-/
import Derived.Test.YtdpoickggdgddabTCRange
import Derived.Test.YtdpoickggdgddabTCGet
import Derived.Test.YtdpoickggdgddabKMakeS
import Derived.Test.YtdpoickggdgddabRangePure
import Derived.Test.YtdpoickggdgddabKPairs
import Derived.Test.YtdpoickggdgddabKeyO
import Derived.Test.YtdpoickggdgddabPartsOfIs
import Derived.Test.YtdpoickggdgddabPairSlice
import Derived.Test.YtdpoickggdgddabPairStepL
namespace Go.Proofs.Ytdpoickggdgddab
open Go.RowKit
set_option maxRecDepth 100000 in
set_option maxHeartbeats 2000000 in
theorem rangeParts_walk (hM : KMakeOK) (hR : TRangeOK) (hG : TGetOK) (w : World) (v k x y : Value) (l : PL) (kb xb yb : List UInt8) (hv : PairsIs w v l) (hk : SliceIs w k kb) (hx : SliceIs w x xb) (hy : SliceIs w y yb) (hl : Fits l) (hkl : kb.length ≤ maxLen) (hxl : xb.length ≤ maxLen) (hyl : yb.length ≤ maxLen) :
    Calls Try.prog 7 #[v, k, x, y] w fun e w' => e = .returned (.bool true) ∧ w.grownBy w' none := by
  have hT := mkT_tree l 30 (by omega)
  have hTl := mkT_len l 30 (by omega)
  have hK := keyF_len kb
  have hX := keyF_len xb
  have hY := keyF_len yb
  have HM : Hid (Calls Try.prog 8 #[v, .int .i64 30] w fun e w' => ∃ v', e = .returned v' ∧ OwnP w.heap.size w' v' (mkT (l.take 30)) ∧ w.grownBy w' none) := hM w v l 30 hv hl (by omega)
  have KY1 : Hid (∀ w', w.grownBy w' none → Calls Try.prog 9 #[k] w' fun e w'' => ∃ v', e = .returned v' ∧ Own w'.heap.size w'' v' (keyF kb) ∧ w'.grownBy w'' none) := fun w' hg => keyO_any w' k kb (hk.grown hg) hkl
  have KY2 : Hid (∀ w', w.grownBy w' none → Calls Try.prog 9 #[y] w' fun e w'' => ∃ v', e = .returned v' ∧ Own w'.heap.size w'' v' (keyF yb) ∧ w'.grownBy w'' none) := fun w' hg => keyO_any w' y yb (hy.grown hg) hyl
  have KY3 : Hid (∀ w', w.grownBy w' none → Calls Try.prog 9 #[x] w' fun e w'' => ∃ v', e = .returned v' ∧ Own w'.heap.size w'' v' (keyF xb) ∧ w'.grownBy w'' none) := fun w' hg => keyO_any w' x xb (hx.grown hg) hxl
  generalize mkT (l.take 30) = PS at *
  generalize keyF kb = KA at *
  generalize keyF yb = KB at *
  generalize keyF xb = KC at *
  clear hM hv hk hx hy hl hkl hxl hyl
  have RG : ∀ (f t : List UInt8), 1 ≤ f.length ∧ f.length ≤ 16 → 1 ≤ t.length ∧ t.length ≤ 16 → Hid (∀ w' v1 v2 v3, PairsIs w' v1 PS → SliceIs w' v2 f → SliceIs w' v3 t → Calls Try.prog 17 #[v1, v2, v3] w' fun e w'' => ∃ y, e = .returned (.tuple #[y, .int .i64 0]) ∧ PairsIs w'' y (rangeL PS f t) ∧ w'.grownBy w'' none) := fun f t hf ht w' v1 v2 v3 h1 h2 h3 => by
    obtain ⟨p1, p2, p3⟩ := rangeF_ok PS f t hT hf ht
    have := hR w' v1 v2 v3 PS f t h1 h2 h3 hT.fits (by omega) (by omega)
    rw [p1, p2] at this
    exact this
  have RN1 : Hid (∀ w' v1 v2 v3, PairsIs w' v1 PS → SliceIs w' v2 KC → SliceIs w' v3 [] → Calls Try.prog 17 #[v1, v2, v3] w' fun e w'' => ∃ y, e = .returned (.tuple #[y, .int .i64 1]) ∧ w'.grownBy w'' none) := fun w' v1 v2 v3 h1 h2 h3 => by
    obtain ⟨r1, r2⟩ := rangeE_nil2 PS KC hT hX
    have := hR w' v1 v2 v3 PS KC [] h1 h2 h3 hT.fits (by omega) (by simp)
    rw [r1, r2] at this
    refine this.mono ?_
    rintro e w2 ⟨y, he, _, hg⟩
    exact ⟨y, he, hg⟩
  have RN2 : Hid (∀ w' v1 v2 v3, PairsIs w' v1 PS → SliceIs w' v2 [] → SliceIs w' v3 KC → Calls Try.prog 17 #[v1, v2, v3] w' fun e w'' => ∃ y, e = .returned (.tuple #[y, .int .i64 1]) ∧ w'.grownBy w'' none) := fun w' v1 v2 v3 h1 h2 h3 => by
    obtain ⟨r1, r2⟩ := rangeE_nil PS KC hT
    have := hR w' v1 v2 v3 PS [] KC h1 h2 h3 hT.fits (by simp) (by omega)
    rw [r1, r2] at this
    refine this.mono ?_
    rintro e w2 ⟨y, he, _, hg⟩
    exact ⟨y, he, hg⟩
  have R1 := RG KC KA hX hK
  have R2 := RG KA KB hK hY
  have R3 := RG KB KC hY hX
  have R4 := RG KA KC hK hX
  obtain ⟨g1, g2, g3⟩ := get_ok PS KB hT hY
  have HG1 : Hid (∀ w' v1 v2, PairsIs w' v1 PS → SliceIs w' v2 KB → Calls Try.prog 12 #[v1, v2] w' fun e w'' => ∃ y, e = .returned (.tuple #[.agg #[.bool (getF PS KB).isSome, y], .int .i64 0]) ∧ SliceIs w'' y (getV PS KB) ∧ w'.grownBy w'' none) := fun w' v1 v2 h1 h2 => by
    have := hG w' v1 v2 PS KB h1 h2 hT.fits (by omega)
    rw [g1, g2] at this
    exact this
  have hrl := range_len PS KC KA
  have hr2 := range_len PS KA KB
  have hr3 := range_len PS KB KC
  have hr4 := range_len PS KA KC
  have HMeet : Hid (klt KB KA = false → klt KC KB = false → lessLast PS KA KB ++ rangeL PS KB KC = rangeL PS KA KC) := fun h1 h2 => range_meet PS hT.rises KA KB KC h1 h2
  have HSome : Hid (klt KB KA = false → (getF PS KB).isSome = true → 0 < (rangeL PS KA KB).length) := fun h1 h2 => range_some PS hT.rises KA KB h1 h2
  have HLL : Hid (lessLast PS KA KB = if (getF PS KB).isSome = true then (rangeL PS KA KB).dropLast else rangeL PS KA KB) := rfl
  generalize lessLast PS KA KB = LL at *
  generalize rangeL PS KC KA = X1 at *
  generalize rangeL PS KA KB = X2 at *
  generalize rangeL PS KB KC = X3 at *
  generalize rangeL PS KA KC = X4 at *
  generalize (getF PS KB).isSome = G at *
  generalize getV PS KB = V at *
  clear RG g1 g2 g3 hT hR hG hK hX hY
  go_enter Try.func7, Try.ntmps7
  go_wp2_with fail
  refine HM.out.mono ?_
  rintro e w1 ⟨v1, rfl, ho1, hg1⟩
  obtain ⟨a1, c1, rfl⟩ := ho1.shape
  go_wp2_with fail
  refine (KY1.out _ hg1).mono ?_
  rintro e w2 ⟨v2, rfl, ho2, hg2⟩
  obtain ⟨a2, c2, rfl⟩ := ho2.shape
  have hg12 := grown_trans hg1 hg2
  go_wp2_with fail
  refine (KY2.out _ hg12).mono ?_
  rintro e w3 ⟨v3, rfl, ho3, hg3⟩
  obtain ⟨a3, c3, rfl⟩ := ho3.shape
  have hg13 := grown_trans hg12 hg3
  go_wp2_with fail
  refine (KY3.out _ hg13).mono ?_
  rintro e w4 ⟨v4, rfl, ho4, hg4⟩
  obtain ⟨a4, c4, rfl⟩ := ho4.shape
  have hg14 := grown_trans hg13 hg4
  have HL : Hid (PairsIs w4 (.slice a1 PS.length c1) PS) := (ho1.grownNone (grown_trans hg2 (grown_trans hg3 hg4))).list
  have SA : Hid (SliceIs w4 (.slice a2 KA.length c2) KA) := (ho2.grownNone (grown_trans hg3 hg4)).slice
  have SB : Hid (SliceIs w4 (.slice a3 KB.length c3) KB) := (ho3.grownNone hg4).slice
  have SC : Hid (SliceIs w4 (.slice a4 KC.length c4) KC) := ho4.slice
  have cA := conv_bytes w4 _ _ SA.out
  have cB := conv_bytes w4 _ _ SB.out
  have cC := conv_bytes w4 _ _ SC.out
  clear ho1 ho2 ho3 ho4 hg1 hg2 hg3 hg4 hg12 hg13 KY1 KY2 KY3 HM
  cases hba : klt KB KA with
  | true =>
    have e1 : Op.bytesLess (textOf KB).toList (textOf KA).toList = true := by rw [textOf_list, textOf_list]; exact hba
    clear hba HMeet HSome HLL
    go_wp2_with fail
    refine (R1.out _ _ _ _ HL.out SC.out SA.out).mono ?_
    rintro e w5 ⟨v5, rfl, h5, hg5⟩
    obtain ⟨a5, c5, rfl⟩ := h5.shape
    go_wp2_with fail
    refine (RN1.out _ _ _ _ (HL.out.grown hg5) (SC.out.grown hg5) (sliceIs_nil _)).mono ?_
    rintro e w6 ⟨v6, rfl, hg6⟩
    have i1 : (X1.length : Int) ≤ (PS.length : Int) := by omega
    go_wp2
    go_ret
    exact ⟨rfl, grown_trans hg14 (grown_trans hg5 hg6)⟩
  | false =>
    have e1 : Op.bytesLess (textOf KB).toList (textOf KA).toList = false := by rw [textOf_list, textOf_list]; exact hba
    cases hcb : klt KC KB with
    | true =>
      have e2 : Op.bytesLess (textOf KC).toList (textOf KB).toList = true := by rw [textOf_list, textOf_list]; exact hcb
      clear hba hcb HMeet HSome HLL
      go_wp2_with fail
      refine (R1.out _ _ _ _ HL.out SC.out SA.out).mono ?_
      rintro e w5 ⟨v5, rfl, h5, hg5⟩
      obtain ⟨a5, c5, rfl⟩ := h5.shape
      go_wp2_with fail
      refine (RN1.out _ _ _ _ (HL.out.grown hg5) (SC.out.grown hg5) (sliceIs_nil _)).mono ?_
      rintro e w6 ⟨v6, rfl, hg6⟩
      have i1 : (X1.length : Int) ≤ (PS.length : Int) := by omega
      go_wp2
      go_ret
      exact ⟨rfl, grown_trans hg14 (grown_trans hg5 hg6)⟩
    | false =>
      have e2 : Op.bytesLess (textOf KC).toList (textOf KB).toList = false := by rw [textOf_list, textOf_list]; exact hcb
      have HM4 : Hid (LL ++ X3 = X4) := HMeet.out hba hcb
      have HS4 : Hid (G = true → 0 < X2.length) := HSome.out hba
      clear hba hcb HMeet HSome
      go_wp2_with fail
      refine (R2.out _ _ _ _ HL.out SA.out SB.out).mono ?_
      rintro e w5 ⟨v5, rfl, h5, hg5⟩
      obtain ⟨a5, c5, rfl⟩ := h5.shape
      clear cA cB cC
      go_wp2_with fail
      refine (R3.out _ _ _ _ (HL.out.grown hg5) (SB.out.grown hg5) (SC.out.grown hg5)).mono ?_
      rintro e w6 ⟨v6, rfl, h6, hg6⟩
      obtain ⟨a6, c6, rfl⟩ := h6.shape
      have hg46 := grown_trans hg5 hg6
      go_wp2_with fail
      refine (R4.out _ _ _ _ (HL.out.grown hg46) (SA.out.grown hg46) (SC.out.grown hg46)).mono ?_
      rintro e w7 ⟨v7, rfl, h7, hg7⟩
      obtain ⟨a7, c7, rfl⟩ := h7.shape
      have hg47 := grown_trans hg46 hg7
      go_wp2_with fail
      refine (HG1.out _ _ _ (HL.out.grown hg47) (SB.out.grown hg47)).mono ?_
      rintro e w8 ⟨v8, rfl, h8, hg8⟩
      obtain ⟨a8, c8, rfl⟩ := h8.shape
      have hg48 := grown_trans hg47 hg8
      have hga : w8.grownBy (w8.alloc (.cells #[.bool G, .slice a8 V.length c8] 34)) none := World.grownBy_alloc _ _ _
      obtain ⟨W8, hW8⟩ : ∃ W8 : World, W8 = w8.alloc (.cells #[.bool G, .slice a8 V.length c8] 34) := ⟨_, rfl⟩
      have HW8 : Hid (W8 = w8.alloc (.cells #[.bool G, .slice a8 V.length c8] 34)) := hW8
      rw [← hW8] at hga
      have T2 : Hid (PairsIs W8 (.slice a5 X2.length c5) X2) := h5.grown (grown_trans hg6 (grown_trans hg7 (grown_trans hg8 hga)))
      have T3 : Hid (PairsIs W8 (.slice a6 X3.length c6) X3) := h6.grown (grown_trans hg7 (grown_trans hg8 hga))
      have T4 : Hid (PairsIs W8 (.slice a7 X4.length c7) X4) := h7.grown (grown_trans hg8 hga)
      have HL8 : Hid (PairsIs W8 (.slice a1 PS.length c1) PS) := HL.out.grown (grown_trans hg48 hga)
      have SC8 : Hid (SliceIs W8 (.slice a4 KC.length c4) KC) := SC.out.grown (grown_trans hg48 hga)
      have hgw8 := grown_trans hg14 (grown_trans hg48 hga)
      clear h5 h6 h7 h8 hg5 hg6 hg7 hg8 hg46 hg47 hg48 hga hg14 SA SB SC HL HG1 R1 R2 R3 R4 hW8
      cases G with
      | true =>
        have hpos := HS4.out rfl
        have i1 : (0 : Int) < (X2.length : Int) := by omega
        have HLX : Hid (LL = X2.dropLast) := by show _ = _; rw [HLL.out, if_pos rfl]
        obtain ⟨n, hn⟩ : ∃ n, X2.length = n + 1 := ⟨X2.length - 1, by omega⟩
        have HN : Hid (X2.length = n + 1) := hn
        have i2 : (X2.length : Int) - 1 = (n : Int) := by omega
        obtain ⟨b1, d1, q1, g1⟩ := pslice_h a5 c5 X2 n (by omega) T2.out.cap
        have T5 : Hid (PairsIs W8 (.slice b1 n d1) LL) := by
          have := g1 W8 T2.out
          rw [show X2.take n = LL by rw [HLX.out, List.dropLast_eq_take, hn]; rfl] at this
          exact this
        have HLEN : Hid (LL.length ≤ X2.length) := by show _ ≤ _; rw [HLX.out]; simp
        clear hn g1 HS4 HLL
        have tok1 : True := trivial
        go_wp2_with fail
        rw [← HW8.out]
        refine (RN2.out _ _ _ _ HL8.out (sliceIs_nil _) SC8.out).mono ?_
        rintro e w9 ⟨v9, rfl, hg9⟩
        have hg89 := hg9
        have P1 : Hid (PartsIs w9.heap.size w9 (.slice b1 n d1) LL) := (T5.out.grown hg9).parts (grown_refl _ _) _ (Nat.le_refl _)
        have P2 : Hid (∀ w', w9.grownBy w' none → PartsIs w9.heap.size w' (.slice a6 X3.length c6) X3) := fun w' hg => (T3.out.grown hg9).parts hg _ (Nat.le_refl _)
        have T49 : Hid (PairsIs w9 (.slice a7 X4.length c7) X4) := T4.out.grown hg9
        have hLL : LL.length ≤ 60 := by have := HLEN.out; omega
        clear T2 T3 T4 HL8 SC8 RN1 RN2 hg9
        go_upto_region 16 with fail
        go_wp2_with (first
          | (at_builtin; have _t := tok1; refine wpList_append_plistG (by first | rfl | kernel_rfl) _ _ rfl w9.heap.size (.slice none 0 0) [] rfl (ownP_nil _ _) _ _ _ LL rfl P1.out (by simp; omega) (Nat.le_refl _) ?_; intro v10 w10 ho10 hg10; rw [List.nil_append] at ho10; obtain ⟨a10, c10, rfl⟩ := ho10.shape; clear tok1)
          | (at_builtin; refine wpList_append_plistG (by first | rfl | kernel_rfl) _ _ rfl w9.heap.size (.slice a10 LL.length c10) LL rfl ho10 _ _ _ X3 rfl (P2.out _ hg10) (by omega) hg10.size ?_; intro v11 w11 ho11 hg11; obtain ⟨a11, c11, rfl⟩ := ho11.shape))
        have hgw11 : w9.grownBy w11 none := grown_ownP hg10 ho10 hg11
        have SP : Hid (Calls Try.prog 15 #[.slice a11 (LL ++ X3).length c11, .slice a7 X4.length c7] w11 fun e w' => e = .returned (.bool true) ∧ w11.grownBy w' none) := by
          have := ksamePairs_any w11 _ _ (LL ++ X3) X4 ho11.list (T49.out.grown hgw11) (by simp; omega)
          rw [decide_eq_true HM4.out] at this
          exact this
        rw [List.length_append] at SP
        refine SP.out.mono ?_
        rintro e w12 ⟨rfl, hg12⟩
        go_wp2
        go_ret
        exact ⟨rfl, grown_trans hgw8 (grown_trans hg89 (grown_trans hgw11 hg12))⟩
      | false =>
        have HLX : Hid (LL = X2) := by show _ = _; rw [HLL.out, if_neg (by simp)]
        have T5 : Hid (PairsIs W8 (.slice a5 X2.length c5) LL) := by rw [HLX.out]; exact T2.out
        have HLEN : Hid (LL.length ≤ X2.length) := by show _ ≤ _; rw [HLX.out]; exact Nat.le_refl _
        clear HS4 HLL
        have tok1 : True := trivial
        go_wp2_with fail
        rw [← HW8.out]
        refine (RN2.out _ _ _ _ HL8.out (sliceIs_nil _) SC8.out).mono ?_
        rintro e w9 ⟨v9, rfl, hg9⟩
        have hg89 := hg9
        have P1 : Hid (PartsIs w9.heap.size w9 (.slice a5 X2.length c5) LL) := (T5.out.grown hg9).parts (grown_refl _ _) _ (Nat.le_refl _)
        have P2 : Hid (∀ w', w9.grownBy w' none → PartsIs w9.heap.size w' (.slice a6 X3.length c6) X3) := fun w' hg => (T3.out.grown hg9).parts hg _ (Nat.le_refl _)
        have T49 : Hid (PairsIs w9 (.slice a7 X4.length c7) X4) := T4.out.grown hg9
        have hLL : LL.length ≤ 60 := by have := HLEN.out; omega
        clear T2 T3 T4 HL8 SC8 RN1 RN2 hg9
        go_upto_region 16 with fail
        go_wp2_with (first
          | (at_builtin; have _t := tok1; refine wpList_append_plistG (by first | rfl | kernel_rfl) _ _ rfl w9.heap.size (.slice none 0 0) [] rfl (ownP_nil _ _) _ _ _ LL rfl P1.out (by simp; omega) (Nat.le_refl _) ?_; intro v10 w10 ho10 hg10; rw [List.nil_append] at ho10; obtain ⟨a10, c10, rfl⟩ := ho10.shape; clear tok1)
          | (at_builtin; refine wpList_append_plistG (by first | rfl | kernel_rfl) _ _ rfl w9.heap.size (.slice a10 LL.length c10) LL rfl ho10 _ _ _ X3 rfl (P2.out _ hg10) (by omega) hg10.size ?_; intro v11 w11 ho11 hg11; obtain ⟨a11, c11, rfl⟩ := ho11.shape))
        have hgw11 : w9.grownBy w11 none := grown_ownP hg10 ho10 hg11
        have SP : Hid (Calls Try.prog 15 #[.slice a11 (LL ++ X3).length c11, .slice a7 X4.length c7] w11 fun e w' => e = .returned (.bool true) ∧ w11.grownBy w' none) := by
          have := ksamePairs_any w11 _ _ (LL ++ X3) X4 ho11.list (T49.out.grown hgw11) (by simp; omega)
          rw [decide_eq_true HM4.out] at this
          exact this
        rw [List.length_append] at SP
        refine SP.out.mono ?_
        rintro e w12 ⟨rfl, hg12⟩
        go_wp2
        go_ret
        exact ⟨rfl, grown_trans hgw8 (grown_trans hg89 (grown_trans hgw11 hg12))⟩
end Go.Proofs.Ytdpoickggdgddab
