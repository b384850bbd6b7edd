/-
  The walk of canopykeep.DeleteGone, over what the code must keep.
-/
import Derived.Test.YtdpoickggdgddabTCGet
import Derived.Test.YtdpoickggdgddabTCPut
import Derived.Test.YtdpoickggdgddabTCDelete
import Derived.Test.YtdpoickggdgddabKMakeS
import Derived.Test.YtdpoickggdgddabKPure
import Derived.Test.YtdpoickggdgddabKPairs
import Derived.Test.YtdpoickggdgddabKeyO
namespace Go.Proofs.Ytdpoickggdgddab
open Go.RowKit
set_option maxRecDepth 100000 in
set_option maxHeartbeats 2000000 in
theorem deleteGone_walk (hM : KMakeOK) (hG : TGetOK) (hP : TPutOK) (hD : TDelOK) (w : World) (v k x : Value) (l : PL) (kb xb : List UInt8) (hv : PairsIs w v l) (hk : SliceIs w k kb) (hx : SliceIs w x xb) (hl : Fits l) (hkl : kb.length ≤ maxLen) (hxl : xb.length ≤ maxLen) :
    Calls Try.prog 5 #[v, k, x] w fun e w' => e = .returned (.bool true) ∧ w.grownBy w' none := by
  have hT := mkT_tree l 30 (by omega)
  have hTl := mkT_len l 30 (by omega)
  have hK := keyF_len kb
  have hV : (xb.take 32).length ≤ 32 := by simp; omega
  have HM : Hid (Calls Try.prog 8 #[v, .int .i64 30] w fun e w' => ∃ v', e = .returned v' ∧ OwnP w.heap.size w' v' (mkT (l.take 30)) ∧ w.grownBy w' none) := hM w v l 30 hv hl (by omega)
  have KY1 : Hid (∀ w', w.grownBy w' none → Calls Try.prog 9 #[k] w' fun e w'' => ∃ v', e = .returned v' ∧ Own w'.heap.size w'' v' (keyF kb) ∧ w'.grownBy w'' none) := fun w' hg => keyO_any w' k kb (hk.grown hg) hkl
  have SO : Hid (∀ w', w.grownBy w' none → Calls Try.prog 11 #[x, .int .i64 32] w' fun e w'' => ∃ v', e = .returned v' ∧ Own w'.heap.size w'' v' (xb.take 32) ∧ w'.grownBy w'' none) := fun w' hg => some_any w' x xb 32 (by omega) (hx.grown hg) hxl
  generalize mkT (l.take 30) = PS at *
  generalize keyF kb = K at *
  generalize xb.take 32 = V at *
  clear hM hv hk hx hl hkl hxl
  obtain ⟨d1, d2, d3⟩ := delF_ok PS K hT hK
  have hdl := del_len PS K
  obtain ⟨p1, p2, p3⟩ := putE_ok (delL PS K) (K, V) d3 ⟨hK, hV⟩ (by omega)
  obtain ⟨b1, b2, b3⟩ := delF_ok _ K p3 hK
  obtain ⟨g1, g2, g3⟩ := get_ok _ K d3 hK
  obtain ⟨r1, r2, r3⟩ := get_ok _ K hT hK
  have hgn := get_del PS K K
  rw [if_pos rfl] at hgn
  rw [hgn] at g2 g3
  have hback : delL (putL (delL PS K) (K, V)) K = delL PS K := by
    have := del_put (delL PS K) (K, V) d3.rises
    rw [this]
    exact del_none _ _ hgn
  rw [hback] at b2
  have hmore : (putL (delL PS K) (K, V)).length = (delL PS K).length + 1 := put_len_new _ (K, V) hgn
  have hless : (delL PS K).length + (if (getF PS K).isSome = true then 1 else 0) = PS.length := by
    by_cases h : (getF PS K).isSome = true
    · rw [if_pos h]; exact del_len_old PS K hT.rises h
    · rw [if_neg h, del_none PS K (by simpa using h)]; rfl
  have HDel1 : Hid (∀ w' v1 v2, PairsIs w' v1 PS → SliceIs w' v2 K → Calls Try.prog 16 #[v1, v2] w' fun e w'' => ∃ y, e = .returned (.tuple #[y, .int .i64 0]) ∧ PairsIs w'' y (delL PS K) ∧ w'.grownBy w'' none) := fun w' v1 v2 h1 h2 => by
    have := hD w' v1 v2 PS K h1 h2 hT.fits (by omega)
    rw [d1, d2] at this
    exact this
  have HGet1 : Hid (∀ w' v1 v2, PairsIs w' v1 (delL PS K) → SliceIs w' v2 K → Calls Try.prog 12 #[v1, v2] w' fun e w'' => ∃ y, e = .returned (.tuple #[.agg #[.bool false, y], .int .i64 0]) ∧ SliceIs w'' y [] ∧ w'.grownBy w'' none) := fun w' v1 v2 h1 h2 => by
    have := hG w' v1 v2 _ K h1 h2 d3.fits (by omega)
    rw [g1, g2, g3] at this
    exact this
  have HPut : Hid (∀ w' v1 v2, PairsIs w' v1 (delL PS K) → PairIs w' v2 (K, V) → Calls Try.prog 10 #[v1, v2] w' fun e w'' => ∃ y, e = .returned (.tuple #[y, .int .i64 0]) ∧ PairsIs w'' y (putL (delL PS K) (K, V)) ∧ w'.grownBy w'' none) := fun w' v1 v2 h1 h2 => by
    have := hP w' v1 v2 _ (K, V) h1 h2 d3.fits (by simp; omega) (by simp; omega)
    rw [p1, p2] at this
    exact this
  have HDel2 : Hid (∀ w' v1 v2, PairsIs w' v1 (putL (delL PS K) (K, V)) → SliceIs w' v2 K → Calls Try.prog 16 #[v1, v2] w' fun e w'' => ∃ y, e = .returned (.tuple #[y, .int .i64 0]) ∧ PairsIs w'' y (delL PS K) ∧ w'.grownBy w'' none) := fun w' v1 v2 h1 h2 => by
    have := hD w' v1 v2 _ K h1 h2 p3.fits (by omega)
    rw [b1, b2] at this
    exact this
  have HGet2 : Hid (∀ w' v1 v2, PairsIs w' v1 PS → SliceIs w' v2 K → Calls Try.prog 12 #[v1, v2] w' fun e w'' => ∃ y, e = .returned (.tuple #[.agg #[.bool (getF PS K).isSome, y], .int .i64 0]) ∧ SliceIs w'' y (getV PS K) ∧ w'.grownBy w'' none) := fun w' v1 v2 h1 h2 => by
    have := hG w' v1 v2 _ K h1 h2 hT.fits (by omega)
    rw [r1, r2] at this
    exact this
  have hroom := d3.room
  generalize (getF PS K).isSome = B at *
  generalize getV PS K = V3 at *
  generalize putL (delL PS K) (K, V) = MO at *
  generalize delL PS K = LE at *
  have HLESS : Hid (LE.length + (if B = true then 1 else 0) = PS.length) := hless
  have HMORE : Hid (MO.length = LE.length + 1) := hmore
  have HROOM : Hid (LE.length ≤ 60) := hroom
  clear d1 d2 d3 p1 p2 p3 b1 b2 b3 g1 g2 g3 r1 r2 r3 hgn hback hT hP hG hD hK hV hdl hless hmore hroom hTl
  go_enter Try.func5, Try.ntmps5
  go_wp2_with fail
  refine HM.out.mono ?_
  rintro e w1 ⟨v1, rfl, ho1, hg1⟩
  obtain ⟨a1, c1, rfl⟩ := ho1.shape
  go_wp2_with fail
  refine (KY1.out _ hg1).mono ?_
  rintro e w2 ⟨v2, rfl, ho2, hg2⟩
  obtain ⟨a2, c2, rfl⟩ := ho2.shape
  have hg12 := grown_trans hg1 hg2
  have HL : Hid (PairsIs w2 (.slice a1 PS.length c1) PS) := (ho1.grownNone hg2).list
  have HK : Hid (SliceIs w2 (.slice a2 K.length c2) K) := ho2.slice
  clear ho1 ho2
  go_wp2_with fail
  refine (HDel1.out _ _ _ HL.out HK.out).mono ?_
  rintro e w3 ⟨v3, rfl, h3, hg3⟩
  obtain ⟨a3, c3, rfl⟩ := h3.shape
  have HLE : Hid (PairsIs w3 (.slice a3 LE.length c3) LE) := h3
  clear h3
  go_wp2_with fail
  refine (HGet1.out _ _ _ HLE.out (HK.out.grown hg3)).mono ?_
  rintro e w4 ⟨v4, rfl, h4, hg4⟩
  obtain ⟨a4, c4, rfl⟩ := h4.shape
  clear h4
  have hga4 := World.grownBy_alloc w4 (.cells #[.bool false, .slice a4 0 c4] 34) none
  have hg24 := grown_trans hg3 (grown_trans hg4 hga4)
  have hg14 := grown_trans hg12 hg24
  obtain ⟨W4, hW4⟩ : ∃ W4 : World, W4 = w4.alloc (.cells #[.bool false, .slice a4 0 c4] 34) := ⟨_, rfl⟩
  have HW4 : Hid (W4 = w4.alloc (.cells #[.bool false, .slice a4 0 c4] 34)) := hW4
  have C4 : Hid (W4.heap[w4.heap.size]? = some (.cells #[.bool false, .slice a4 0 c4] 34)) := by rw [hW4]; exact heap_alloc_new w4 _
  rw [← hW4] at hga4 hg24 hg14
  have HK4 : Hid (SliceIs W4 (.slice a2 K.length c2) K) := HK.out.grown hg24
  have HL4 : Hid (PairsIs W4 (.slice a1 PS.length c1) PS) := HL.out.grown hg24
  have HLE4 : Hid (PairsIs W4 (.slice a3 LE.length c3) LE) := HLE.out.grown (grown_trans hg4 hga4)
  clear HK HL HLE hg24 hga4 hg4 hg3 hg12 hg1 hg2 hW4
  go_wp2_with fail
  rw [← HW4.out]
  refine (SO.out _ hg14).mono ?_
  rintro e w5 ⟨v5, rfl, ho5, hg5⟩
  obtain ⟨a5, c5, rfl⟩ := ho5.shape
  go_wp2_with fail
  refine (HPut.out _ _ _ (HLE4.out.grown hg5) ⟨_, _, rfl, HK4.out.grown hg5, ho5.slice⟩).mono ?_
  rintro e w6 ⟨v6, rfl, h6, hg6⟩
  obtain ⟨a6, c6, rfl⟩ := h6.shape
  have hg56 := grown_trans hg5 hg6
  go_wp2_with fail
  refine (HDel2.out _ _ _ h6 (HK4.out.grown hg56)).mono ?_
  rintro e w7 ⟨v7, rfl, h7, hg7⟩
  obtain ⟨a7, c7, rfl⟩ := h7.shape
  have hg57 := grown_trans hg56 hg7
  have HB7 : Hid (PairsIs w7 (.slice a7 LE.length c7) LE) := h7
  have H6 : Hid (PairsIs w6 (.slice a6 MO.length c6) MO) := h6
  clear h6 h7 ho5
  go_upto_region 7 with fail
  go_cut [17, 18] from 20 (fun s17 s18 wx => ∃ (nb : Nat) (a8 : Option Addr) (c8 : Nat), s17 = .pointer (some ⟨nb, 0, none⟩) ∧ s18 = .int .i64 0 ∧ wx.heap[nb]? = some (.cells #[.bool B, .slice a8 V3.length c8] 34) ∧ w7.grownBy wx none)
  case first =>
    go_wp2_with fail
    refine (HGet2.out _ _ _ (HL4.out.grown hg57) (HK4.out.grown hg57)).mono ?_
    rintro e w8 ⟨v8, rfl, h8, hg8⟩
    obtain ⟨a8, c8, rfl⟩ := h8.shape
    go_wp2_with fail
    go_meet
    case rel => exact ⟨w8.heap.size, a8, c8, rfl, rfl, heap_alloc_new w8 _, grown_trans hg8 (World.grownBy_alloc _ _ _)⟩
  case rest =>
    obtain ⟨nb, a8, c8, rfl, rfl, C8, hg8⟩ := hcut
    have hg48 := grown_trans hg57 hg8
    have hgW := grown_trans hg14 hg48
    obtain ⟨x1, _, _, _⟩ := pair_room hg48 C4.out
    obtain ⟨z1, _, _, _⟩ := pair_room (grown_refl wc none) C8
    have T1 : Hid (PairsIs wc (.slice a7 LE.length c7) LE) := HB7.out.grown hg8
    have T2 : Hid (PairsIs wc (.slice a3 LE.length c3) LE) := HLE4.out.grown hg48
    generalize w4.heap.size = n4 at *
    have hMOi : (MO.length : Int) = (LE.length : Int) + 1 := by have := HMORE.out; omega
    have hroom := HROOM.out
    have hgdr := grown_drew (grown_refl wc none)
    clear C8 C4 hg8 hg57 hg56 hg5 hg6 hg7 hg48 hg14 HB7 H6 HLE4 HL4 HK4 HGet2 HDel2 HPut HGet1 HDel1 SO KY1 HM
    have SP : Hid (∀ w', wc.grownBy w' none → Calls Try.prog 15 #[.slice a7 LE.length c7, .slice a3 LE.length c3] w' fun e w'' => e = .returned (.bool true) ∧ w'.grownBy w'' none) := fun w' hg => by
      have := ksamePairs_any w' _ _ LE LE (T1.out.grown hg) (T2.out.grown hg) (by omega)
      rw [decide_eq_true rfl] at this
      exact this
    clear T1 T2
    cases B with
    | true =>
      have hPSi : (PS.length : Int) = (LE.length : Int) + 1 := by have hless := HLESS.out; simp at hless; omega
      clear HLESS
      go_wp2_with fail
      refine (SP.out _ (grown_refl wc none)).mono ?_
      rintro e w11 ⟨rfl, hg11⟩
      go_wp2
      go_ret
      exact ⟨rfl, grown_trans hgW hg11⟩
    | false =>
      have hPSi : (PS.length : Int) = (LE.length : Int) := by have hless := HLESS.out; simp at hless; omega
      clear HLESS
      go_wp2_with fail
      refine (SP.out _ (grown_refl wc none)).mono ?_
      rintro e w11 ⟨rfl, hg11⟩
      go_wp2
      go_ret
      exact ⟨rfl, grown_trans hgW hg11⟩
end Go.Proofs.Ytdpoickggdgddab
