/-
  The walk of canopykeep.PutGet, over what the code must keep (4 minutes: its return is a region of 50 operations, by wip/regscript.py).
-/
import Derived.Test.YtdpoickggdgddabTCCheck
import Derived.Test.YtdpoickggdgddabTCGet
import Derived.Test.YtdpoickggdgddabTCPut
import Derived.Test.YtdpoickggdgddabKMakeS
import Derived.Test.YtdpoickggdgddabKPure
import Derived.Test.YtdpoickggdgddabKSame
import Derived.Test.YtdpoickggdgddabKeyO
import Derived.Deep.RegionWith
namespace Go.Proofs.Ytdpoickggdgddab
open Go.RowKit
set_option maxRecDepth 100000 in
set_option maxHeartbeats 40000000 in
theorem putGet_walk (hM : KMakeOK) (hC : TCheckOK) (hG : TGetOK) (hP : TPutOK) (w : World) (v k x o : Value) (l : PL) (kb xb ob : List UInt8) (hv : PairsIs w v l) (hk : SliceIs w k kb) (hx : SliceIs w x xb) (ho : SliceIs w o ob) (hl : Fits l) (hkl : kb.length ≤ maxLen) (hxl : xb.length ≤ maxLen) (hol : ob.length ≤ maxLen) :
    Calls Try.prog 3 #[v, k, x, o] w fun e w' => e = .returned (.bool true) ∧ w.grownBy w' none := by
  have hT := mkT_tree l 30 (by omega)
  have hTl := mkT_len l 30 (by omega)
  have hK := keyF_len kb
  have hB := keyF_len ob
  have hV : (xb.take 32).length ≤ 32 := by simp; omega
  have HM : Hid (Calls Try.prog 8 #[v, .int .i64 30] w fun e w' => ∃ v', e = .returned v' ∧ OwnP w.heap.size w' v' (mkT (l.take 30)) ∧ w.grownBy w' none) := hM w v l 30 hv hl (by omega)
  have KY1 : Hid (∀ w', w.grownBy w' none → Calls Try.prog 9 #[k] w' fun e w'' => ∃ v', e = .returned v' ∧ Own w'.heap.size w'' v' (keyF kb) ∧ w'.grownBy w'' none) := fun w' hg => keyO_any w' k kb (hk.grown hg) hkl
  have KY2 : Hid (∀ w', w.grownBy w' none → Calls Try.prog 9 #[o] w' fun e w'' => ∃ v', e = .returned v' ∧ Own w'.heap.size w'' v' (keyF ob) ∧ w'.grownBy w'' none) := fun w' hg => keyO_any w' o ob (ho.grown hg) hol
  have SO : Hid (∀ w', w.grownBy w' none → Calls Try.prog 11 #[x, .int .i64 32] w' fun e w'' => ∃ v', e = .returned v' ∧ Own w'.heap.size w'' v' (xb.take 32) ∧ w'.grownBy w'' none) := fun w' hg => some_any w' x xb 32 (by omega) (hx.grown hg) hxl
  generalize mkT (l.take 30) = PS at *
  generalize keyF kb = K at *
  generalize keyF ob = B at *
  generalize xb.take 32 = V at *
  clear hM hv hk hx ho hl hkl hxl hol
  obtain ⟨p1, p2, p3⟩ := putE_ok PS (K, V) hT ⟨hK, hV⟩ (by omega)
  obtain ⟨g1, g2, g3⟩ := get_ok _ K p3 hK
  obtain ⟨q1, q2, q3⟩ := get_ok _ B p3 hB
  obtain ⟨r1, r2, r3⟩ := get_ok _ B hT hB
  have hgp := get_put PS (K, V) K hT.rises
  have hgo := get_put PS (K, V) B hT.rises
  rw [if_pos rfl] at hgp
  rw [hgp] at g2 g3
  rw [hgo] at q2 q3
  have f3 := tree_fault _ p3
  have HT1 : Hid (Tree PS) := hT
  have HPut : Hid (∀ w' v1 v2, PairsIs w' v1 PS → PairIs w' v2 (K, V) → Calls Try.prog 10 #[v1, v2] w' fun e w'' => ∃ y, e = .returned (.tuple #[y, .int .i64 0]) ∧ PairsIs w'' y (putL PS (K, V)) ∧ w'.grownBy w'' none) := fun w' v1 v2 h1 h2 => by
    have := hP w' v1 v2 PS (K, V) h1 h2 hT.fits (by simp; omega) (by simp; omega)
    rw [p1, p2] at this
    exact this
  have HGet1 : Hid (∀ w' v1 v2, PairsIs w' v1 (putL PS (K, V)) → SliceIs w' v2 K → Calls Try.prog 12 #[v1, v2] w' fun e w'' => ∃ y, e = .returned (.tuple #[.agg #[.bool true, y], .int .i64 0]) ∧ SliceIs w'' y V ∧ w'.grownBy w'' none) := fun w' v1 v2 h1 h2 => by
    have := hG w' v1 v2 _ K h1 h2 p3.fits (by omega)
    rw [g1, g2, g3] at this
    exact this
  have HGet2 : Hid (∀ w' v1 v2, PairsIs w' v1 (putL PS (K, V)) → SliceIs w' v2 B → Calls Try.prog 12 #[v1, v2] w' fun e w'' => ∃ y, e = .returned (.tuple #[.agg #[.bool (getB (putL PS (K, V)) B), y], .int .i64 0]) ∧ SliceIs w'' y (getV (putL PS (K, V)) B) ∧ w'.grownBy w'' none) := fun w' v1 v2 h1 h2 => by
    have := hG w' v1 v2 _ B h1 h2 p3.fits (by omega)
    rw [q1] at this
    exact this
  have HGet3 : Hid (∀ w' v1 v2, PairsIs w' v1 PS → SliceIs w' v2 B → Calls Try.prog 12 #[v1, v2] w' fun e w'' => ∃ y, e = .returned (.tuple #[.agg #[.bool (getB PS B), y], .int .i64 0]) ∧ SliceIs w'' y (getV PS B) ∧ w'.grownBy w'' none) := fun w' v1 v2 h1 h2 => by
    have := hG w' v1 v2 _ B h1 h2 hT.fits (by omega)
    rw [r1] at this
    exact this
  have HChk : Hid (∀ w' v1, PairsIs w' v1 (putL PS (K, V)) → Calls Try.prog 14 #[v1] w' fun e w'' => e = .returned (.int .i64 0) ∧ w'.grownBy w'' none) := fun w' v1 h1 => by
    have := hC w' v1 _ h1 p3.fits
    rw [f3] at this
    exact this
  have HNE : Hid (¬ K = B → getB (putL PS (K, V)) B = getB PS B ∧ getV (putL PS (K, V)) B = getV PS B) := fun hne => by
    rw [q2, q3, r2, r3, if_neg hne]; exact ⟨rfl, rfl⟩
  generalize getB (putL PS (K, V)) B = B2 at *
  generalize getV (putL PS (K, V)) B = V2 at *
  generalize getB PS B = B3 at *
  generalize getV PS B = V3 at *
  generalize putL PS (K, V) = NX at *
  clear p1 p2 p3 g1 g2 g3 q1 q2 q3 r1 r2 r3 hgp hgo f3 hT hTl hP hG hC hK hB hV
  go_enter Try.func3, Try.ntmps3
  go_wp2_with fail
  refine HM.out.mono ?_
  rintro e w1 ⟨v1, rfl, ho1, hg1⟩
  go_wp2_with fail
  refine (KY1.out _ hg1).mono ?_
  rintro e w2 ⟨v2, rfl, ho2, hg2⟩
  obtain ⟨a2, c2, rfl⟩ := ho2.shape
  have hg12 := grown_trans hg1 hg2
  go_wp2_with fail
  refine (KY2.out _ hg12).mono ?_
  rintro e w3 ⟨v3, rfl, ho3, hg3⟩
  have hg13 := grown_trans hg12 hg3
  go_wp2_with fail
  refine (SO.out _ hg13).mono ?_
  rintro e w4 ⟨v4, rfl, ho4, hg4⟩
  obtain ⟨a4, c4, rfl⟩ := ho4.shape
  have hg14 := grown_trans hg13 hg4
  have HL1 : Hid (PairsIs w4 v1 PS) := (ho1.grownNone (grown_trans hg2 (grown_trans hg3 hg4))).list
  have HK2 : Hid (SliceIs w4 (.slice a2 K.length c2) K) := (ho2.grownNone (grown_trans hg3 hg4)).slice
  have HK3 : Hid (SliceIs w4 v3 B) := (ho3.grownNone hg4).slice
  have HV4 : Hid (SliceIs w4 (.slice a4 V.length c4) V) := ho4.slice
  clear ho1 ho2 ho3 ho4
  go_wp2_with fail
  refine (HPut.out _ _ _ HL1.out ⟨_, _, rfl, HK2.out, HV4.out⟩).mono ?_
  rintro e w5 ⟨v5, rfl, h5, hg5⟩
  have HL5 : Hid (PairsIs w5 v5 NX) := h5
  clear h5
  go_wp2_with fail
  refine (HGet1.out _ _ _ HL5.out (HK2.out.grown hg5)).mono ?_
  rintro e w6 ⟨v6, rfl, h6, hg6⟩
  obtain ⟨a6, c6, rfl⟩ := h6.shape
  have HS6 : Hid (SliceIs w6 (.slice a6 V.length c6) V) := h6
  have hg56 := grown_trans hg5 hg6
  clear h6
  go_wp2_with fail
  have hga6 := World.grownBy_alloc w6 (.cells #[.bool true, .slice a6 V.length c6] 34) none
  refine (HGet2.out _ _ _ (HL5.out.grown (grown_trans hg6 hga6)) (HK3.out.grown (grown_trans hg56 hga6))).mono ?_
  rintro e w7 ⟨v7, rfl, h7, hg7⟩
  obtain ⟨a7, c7, rfl⟩ := h7.shape
  have HS7 : Hid (SliceIs w7 (.slice a7 V2.length c7) V2) := h7
  have hg67 := grown_trans hga6 hg7
  have hg57 := grown_trans hg56 hg67
  have C6 : Hid (w7.heap[w6.heap.size]? = some (.cells #[.bool true, .slice a6 V.length c6] 34)) := pair_old hg7 (heap_alloc_new w6 _)
  clear h7
  have hga7 := World.grownBy_alloc w7 (.cells #[.bool B2, .slice a7 V2.length c7] 34) none
  go_upto_region 7 with fail
  go_cut [18, 19] from 20 (fun s18 s19 wx => ∃ (nb : Nat) (a8 : Option Addr) (c8 : Nat), s18 = .pointer (some ⟨nb, 0, none⟩) ∧ s19 = .int .i64 0 ∧ wx.heap[nb]? = some (.cells #[.bool B3, .slice a8 V3.length c8] 34) ∧ SliceIs wx (.slice a8 V3.length c8) V3 ∧ (w7.alloc (.cells #[.bool B2, .slice a7 V2.length c7] 34)).grownBy wx none)
  case first =>
    go_wp2_with fail
    refine (HGet3.out _ _ _ (HL1.out.grown (grown_trans hg57 hga7)) (HK3.out.grown (grown_trans hg57 hga7))).mono ?_
    rintro e w8 ⟨v8, rfl, h8, hg8⟩
    obtain ⟨a8, c8, rfl⟩ := h8.shape
    go_wp2_with fail
    go_meet
    case rel => exact ⟨w8.heap.size, a8, c8, rfl, rfl, heap_alloc_new w8 _, h8.alloc _, grown_trans hg8 (World.grownBy_alloc _ _ _)⟩
  case rest =>
    obtain ⟨nb, a8, c8, rfl, rfl, C8, h8, hg9⟩ := hcut
    have hg79 := grown_trans hga7 hg9
    have hg59 := grown_trans hg57 hg79
    obtain ⟨x1, x2, _, _⟩ := pair_room hg79 C6.out
    obtain ⟨y1, y2, _, _⟩ := pair_room hg9 (heap_alloc_new w7 _)
    obtain ⟨z1, z2, _, _⟩ := pair_room (grown_refl wc none) C8
    have T1 : Hid (SliceIs wc (.slice a6 V.length c6) V) := HS6.out.grown (grown_trans hg67 hg79)
    have T2 : Hid (SliceIs wc (.slice a7 V2.length c7) V2) := HS7.out.grown hg79
    have T3 : Hid (SliceIs wc (.slice a8 V3.length c8) V3) := h8
    have T4 : Hid (SliceIs wc (.slice a2 K.length c2) K) := HK2.out.grown hg59
    have T5 : Hid (SliceIs wc v3 B) := HK3.out.grown hg59
    have T6 : Hid (PairsIs wc v5 NX) := HL5.out.grown (grown_trans hg6 (grown_trans hg67 hg79))
    have hgW := grown_trans hg14 hg59
    clear h8 C8 hga6 hga7 hg7 C6 HS6 HS7 HK2 HK3 HL5 HL1 HV4 hg67 hg57 hg56 hg79 hg59 hg1 hg2 hg3 hg4 hg5 hg6 hg12 hg13 hg14 hg9 HM KY1 KY2 HPut HGet1 HGet2 HGet3 HT1
    generalize w6.heap.size = n6 at *
    generalize w7.heap.size = n7 at *
    have hgdr := grown_drew (grown_refl wc none)
    have hgWd := grown_drew hgW
    go_wp2_with fail
    by_cases hKB : K = B
    · subst hKB
      refine wp_region_any (by kernel_rfl) ?_
      try (change wpAny _ _ _ _ _ _ _ (World.drew _))
      refine wpAny_take (i := 0) (v := ?_) rfl (by kernel_rfl) (by kernel_rfl) (by kernel_rfl) (fun _ _ _ h => h) (Or.inl ⟨by kernel_rfl, ?_⟩) ?_
      rotate_left 1
      · intro w; go_simp
        try with_reducible rfl
      refine wpAny_take (i := 1) (v := ?_) rfl (by kernel_rfl) (by kernel_rfl) (by kernel_rfl) (fun _ _ _ h => h) (Or.inl ⟨by kernel_rfl, ?_⟩) ?_
      rotate_left 1
      · intro w; go_simp
        try with_reducible rfl
      refine wpAny_take (i := 2) (v := ?_) rfl (by kernel_rfl) (by kernel_rfl) (by kernel_rfl) (fun _ _ _ h => h) (Or.inl ⟨by kernel_rfl, ?_⟩) ?_
      rotate_left 1
      · intro w; go_simp
        try with_reducible rfl
      refine wpAny_take (i := 3) (v := ?_) rfl (by kernel_rfl) (by kernel_rfl) (by kernel_rfl) (fun _ _ _ h => h) (Or.inl ⟨by kernel_rfl, ?_⟩) ?_
      rotate_left 1
      · intro w; go_simp
        try with_reducible rfl
      refine wpAny_take (i := 4) (v := ?_) rfl (by kernel_rfl) (by kernel_rfl) (by kernel_rfl) (fun _ _ _ h => h) (Or.inl ⟨by kernel_rfl, ?_⟩) ?_
      rotate_left 1
      · intro w; go_simp
        try with_reducible rfl
      refine wpAny_take (i := 5) (v := ?_) rfl (by kernel_rfl) (by kernel_rfl) (by kernel_rfl) (fun _ _ _ h => h) (Or.inl ⟨by kernel_rfl, ?_⟩) ?_
      rotate_left 1
      · intro w; go_simp
        try with_reducible rfl
      refine wpAny_take (i := 6) (v := ?_) rfl (by kernel_rfl) (by kernel_rfl) (by kernel_rfl) (fun _ _ _ h => h) (Or.inl ⟨by kernel_rfl, ?_⟩) ?_
      rotate_left 1
      · intro w; go_simp
        try with_reducible rfl
      refine wpAny_take (i := 7) (v := ?_) rfl (by kernel_rfl) (by kernel_rfl) (by kernel_rfl) (fun _ _ _ h => h) (Or.inl ⟨by kernel_rfl, ?_⟩) ?_
      rotate_left 1
      · intro w; go_simp
        try with_reducible rfl
      refine wpAny_take (i := 8) (v := ?_) rfl (by kernel_rfl) (by kernel_rfl) (by kernel_rfl) (fun _ _ _ h => h) (Or.inl ⟨by kernel_rfl, ?_⟩) ?_
      rotate_left 1
      · intro w; go_simp
        try with_reducible rfl
      refine wpAny_take (i := 9) (v := ?_) rfl (by kernel_rfl) (by kernel_rfl) (by kernel_rfl) (fun _ _ _ h => h) (Or.inl ⟨by kernel_rfl, ?_⟩) ?_
      rotate_left 1
      · intro w; go_simp
        try with_reducible rfl
      refine wpAny_take (i := 10) (v := ?_) rfl (by kernel_rfl) (by kernel_rfl) (by kernel_rfl) (fun _ _ _ h => h) (Or.inl ⟨by kernel_rfl, ?_⟩) ?_
      rotate_left 1
      · intro w; go_simp
        try with_reducible rfl
      refine wpAny_take (i := 11) (v := ?_) rfl (by kernel_rfl) (by kernel_rfl) (by kernel_rfl) (fun _ _ _ h => h) (Or.inl ⟨by kernel_rfl, ?_⟩) ?_
      rotate_left 1
      · intro w; go_simp
        try with_reducible rfl
      refine wpAny_take (i := 12) (v := ?_) rfl (by kernel_rfl) (by kernel_rfl) (by kernel_rfl) (fun _ _ _ h => h) (Or.inl ⟨by kernel_rfl, ?_⟩) ?_
      rotate_left 1
      · intro w; go_simp
        try with_reducible rfl
      refine wpAny_take (i := 13) (v := ?_) rfl (by kernel_rfl) (by kernel_rfl) (by kernel_rfl) (fun _ _ _ h => h) (Or.inl ⟨by kernel_rfl, ?_⟩) ?_
      rotate_left 1
      · intro w; go_simp
        try with_reducible rfl
      refine wpAny_take (i := 14) (v := ?_) rfl (by kernel_rfl) (by kernel_rfl) (by kernel_rfl) (fun _ _ _ h => h) (Or.inl ⟨by kernel_rfl, ?_⟩) ?_
      rotate_left 1
      · intro w; go_simp
        try with_reducible rfl
      refine wpAny_take (i := 15) (v := ?_) rfl (by kernel_rfl) (by kernel_rfl) (by kernel_rfl) (fun _ _ _ h => h) (Or.inl ⟨by kernel_rfl, ?_⟩) ?_
      rotate_left 1
      · intro w; go_simp
        try with_reducible rfl
      refine wpAny_ready (rs := [16]) (by kernel_rfl) (by simp) ?_
      refine AllReady.cons rfl (fun KK hK => ?_) ?_
      · go_simp
        refine hK _ _ ?_
        clear hK KK
        refine wpAny_take (i := 17) (v := ?_) rfl (by kernel_rfl) (by kernel_rfl) (by kernel_rfl) (fun _ _ _ h => h) (Or.inl ⟨by kernel_rfl, ?_⟩) ?_
        rotate_left 1
        · intro w; go_simp
          try with_reducible rfl
        refine wpAny_take (i := 18) (v := ?_) rfl (by kernel_rfl) (by kernel_rfl) (by kernel_rfl) (fun _ _ _ h => h) (Or.inl ⟨by kernel_rfl, ?_⟩) ?_
        rotate_left 1
        · intro w; go_simp
          try with_reducible rfl
        refine wpAny_take (i := 19) (v := ?_) rfl (by kernel_rfl) (by kernel_rfl) (by kernel_rfl) (fun _ _ _ h => h) (Or.inl ⟨by kernel_rfl, ?_⟩) ?_
        rotate_left 1
        · intro w; go_simp
          try with_reducible rfl
        refine wpAny_take (i := 21) (v := ?_) rfl (by kernel_rfl) (by kernel_rfl) (by kernel_rfl) (fun _ _ _ h => h) (Or.inl ⟨by kernel_rfl, ?_⟩) ?_
        rotate_left 1
        · intro w; go_simp
          try with_reducible rfl
        refine wpAny_ready (rs := [20, 22]) (by kernel_rfl) (by simp) ?_
        refine AllReady.cons rfl (fun KK hK => ?_) ?_
        · go_simp
          refine hK _ _ ?_
          clear hK KK
          refine wpAny_ready (rs := [22]) (by kernel_rfl) (by simp) ?_
          refine AllReady.cons rfl (fun KK hK => ?_) ?_
          · go_simp
            refine (SO.out _ ?_).mono ?_
            · exact hgWd
            rintro e w10 ⟨v10, rfl, ho10, hg10⟩
            have hgx := grown_trans hgdr hg10
            have HO10 : Hid (SliceIs w10 v10 V) := ho10.slice
            have x3 := hgx.cell x2 (by simp)
            have y3 := hgx.cell y1 (by simp)
            have y4 := hgx.cell y2 (by simp)
            have z3 := hgx.cell z1 (by simp)
            have z4 := hgx.cell z2 (by simp)
            clear ho10
            refine hK _ _ ?_
            clear hK KK
            refine wpAny_ready (rs := [23]) (by kernel_rfl) (by simp) ?_
            refine AllReady.cons rfl (fun KK hK => ?_) ?_
            · go_simp
              refine (same_any _ (.slice a6 V.length c6) v10 V V (T1.out.grown hgx) HO10.out).mono ?_
              rintro e w' ⟨rfl, rfl⟩
              refine hK _ _ ?_
              clear hK KK
              refine wpAny_take (i := 24) (v := ?_) rfl (by kernel_rfl) (by kernel_rfl) (by kernel_rfl) (fun _ _ _ h => h) (Or.inl ⟨by kernel_rfl, ?_⟩) ?_
              rotate_left 1
              · intro w; go_simp
                try with_reducible rfl
              refine wpAny_take (i := 25) (v := ?_) rfl (by kernel_rfl) (by kernel_rfl) (by kernel_rfl) (fun _ _ _ h => h) (Or.inl ⟨by kernel_rfl, ?_⟩) ?_
              rotate_left 1
              · intro w; go_simp
                try with_reducible rfl
              refine wpAny_take (i := 26) (v := ?_) rfl (by kernel_rfl) (by kernel_rfl) (by kernel_rfl) (fun _ _ _ h => h) (Or.inl ⟨by kernel_rfl, ?_⟩) ?_
              rotate_left 1
              · intro w; go_simp
                try with_reducible rfl
              refine wpAny_take (i := 27) (v := ?_) rfl (by kernel_rfl) (by kernel_rfl) (by kernel_rfl) (fun _ _ _ h => h) (Or.inl ⟨by kernel_rfl, ?_⟩) ?_
              rotate_left 1
              · intro w; go_simp
                try with_reducible rfl
              refine wpAny_ready (rs := [28]) (by kernel_rfl) (by simp) ?_
              refine AllReady.cons rfl (fun KK hK => ?_) ?_
              · go_simp
                refine (same_any _ (.slice a2 K.length c2) v3 K K (T4.out.grown hgx) (T5.out.grown hgx)).mono ?_
                rintro e w' ⟨rfl, rfl⟩
                refine hK _ _ ?_
                clear hK KK
                refine wpAny_take (i := 29) (v := ?_) rfl (by kernel_rfl) (by kernel_rfl) (by kernel_rfl) (fun _ _ _ h => h) (Or.inl ⟨by kernel_rfl, ?_⟩) ?_
                rotate_left 1
                · intro w; go_simp
                  try with_reducible rfl
                refine wpAny_take (i := 30) (v := undef) rfl (by kernel_rfl) (by kernel_rfl) (by kernel_rfl) (fun _ _ _ h => h) (Or.inr ⟨by kernel_rfl, rfl⟩) ?_
                refine wpAny_take (i := 31) (v := undef) rfl (by kernel_rfl) (by kernel_rfl) (by kernel_rfl) (fun _ _ _ h => h) (Or.inr ⟨by kernel_rfl, rfl⟩) ?_
                refine wpAny_take (i := 32) (v := undef) rfl (by kernel_rfl) (by kernel_rfl) (by kernel_rfl) (fun _ _ _ h => h) (Or.inr ⟨by kernel_rfl, rfl⟩) ?_
                refine wpAny_take (i := 33) (v := undef) rfl (by kernel_rfl) (by kernel_rfl) (by kernel_rfl) (fun _ _ _ h => h) (Or.inr ⟨by kernel_rfl, rfl⟩) ?_
                refine wpAny_take (i := 34) (v := undef) rfl (by kernel_rfl) (by kernel_rfl) (by kernel_rfl) (fun _ _ _ h => h) (Or.inr ⟨by kernel_rfl, rfl⟩) ?_
                refine wpAny_take (i := 35) (v := undef) rfl (by kernel_rfl) (by kernel_rfl) (by kernel_rfl) (fun _ _ _ h => h) (Or.inr ⟨by kernel_rfl, rfl⟩) ?_
                refine wpAny_take (i := 36) (v := undef) rfl (by kernel_rfl) (by kernel_rfl) (by kernel_rfl) (fun _ _ _ h => h) (Or.inr ⟨by kernel_rfl, rfl⟩) ?_
                refine wpAny_take (i := 37) (v := undef) rfl (by kernel_rfl) (by kernel_rfl) (by kernel_rfl) (fun _ _ _ h => h) (Or.inr ⟨by kernel_rfl, rfl⟩) ?_
                refine wpAny_take (i := 38) (v := undef) rfl (by kernel_rfl) (by kernel_rfl) (by kernel_rfl) (fun _ _ _ h => h) (Or.inr ⟨by kernel_rfl, rfl⟩) ?_
                refine wpAny_take (i := 39) (v := undef) rfl (by kernel_rfl) (by kernel_rfl) (by kernel_rfl) (fun _ _ _ h => h) (Or.inr ⟨by kernel_rfl, rfl⟩) ?_
                refine wpAny_take (i := 40) (v := undef) rfl (by kernel_rfl) (by kernel_rfl) (by kernel_rfl) (fun _ _ _ h => h) (Or.inr ⟨by kernel_rfl, rfl⟩) ?_
                refine wpAny_take (i := 41) (v := undef) rfl (by kernel_rfl) (by kernel_rfl) (by kernel_rfl) (fun _ _ _ h => h) (Or.inr ⟨by kernel_rfl, rfl⟩) ?_
                refine wpAny_take (i := 42) (v := ?_) rfl (by kernel_rfl) (by kernel_rfl) (by kernel_rfl) (fun _ _ _ h => h) (Or.inl ⟨by kernel_rfl, ?_⟩) ?_
                rotate_left 1
                · intro w; go_simp
                  try with_reducible rfl
                refine wpAny_take (i := 43) (v := ?_) rfl (by kernel_rfl) (by kernel_rfl) (by kernel_rfl) (fun _ _ _ h => h) (Or.inl ⟨by kernel_rfl, ?_⟩) ?_
                rotate_left 1
                · intro w; go_simp
                  try with_reducible rfl
                refine wpAny_take (i := 44) (v := ?_) rfl (by kernel_rfl) (by kernel_rfl) (by kernel_rfl) (fun _ _ _ h => h) (Or.inl ⟨by kernel_rfl, ?_⟩) ?_
                rotate_left 1
                · intro w; go_simp
                  try with_reducible rfl
                refine wpAny_take (i := 45) (v := ?_) rfl (by kernel_rfl) (by kernel_rfl) (by kernel_rfl) (fun _ _ _ h => h) (Or.inl ⟨by kernel_rfl, ?_⟩) ?_
                rotate_left 1
                · intro w; go_simp
                  try with_reducible rfl
                refine wpAny_ready (rs := [46]) (by kernel_rfl) (by simp) ?_
                refine AllReady.cons rfl (fun KK hK => ?_) ?_
                · go_simp
                  refine (HChk.out _ v5 (T6.out.grown hgx)).mono ?_
                  rintro e w11 ⟨rfl, hg11⟩
                  have hgz := grown_trans hgx hg11
                  refine hK _ _ ?_
                  clear hK KK
                  refine wpAny_take (i := 47) (v := ?_) rfl (by kernel_rfl) (by kernel_rfl) (by kernel_rfl) (fun _ _ _ h => h) (Or.inl ⟨by kernel_rfl, ?_⟩) ?_
                  rotate_left 1
                  · intro w; go_simp
                    try with_reducible rfl
                  refine wpAny_take (i := 48) (v := ?_) rfl (by kernel_rfl) (by kernel_rfl) (by kernel_rfl) (fun _ _ _ h => h) (Or.inl ⟨by kernel_rfl, ?_⟩) ?_
                  rotate_left 1
                  · intro w; go_simp
                    try with_reducible rfl
                  refine wpAny_take (i := 49) (v := ?_) rfl (by kernel_rfl) (by kernel_rfl) (by kernel_rfl) (fun _ _ _ h => h) (Or.inl ⟨by kernel_rfl, ?_⟩) ?_
                  rotate_left 1
                  · intro w; go_simp
                    try with_reducible rfl
                  refine wpAny_done (by kernel_rfl) ?_ _
                  go_wp2
                  go_ret
                  exact ⟨rfl, grown_trans hgW hgz⟩
                exact AllReady.nil
              exact AllReady.nil
            exact AllReady.nil
          exact AllReady.nil
        refine AllReady.cons rfl (fun KK hK => ?_) ?_
        · go_simp
          refine (SO.out _ ?_).mono ?_
          · exact hgWd
          rintro e w10 ⟨v10, rfl, ho10, hg10⟩
          have hgx := grown_trans hgdr hg10
          have HO10 : Hid (SliceIs w10 v10 V) := ho10.slice
          have x3 := hgx.cell x2 (by simp)
          have y3 := hgx.cell y1 (by simp)
          have y4 := hgx.cell y2 (by simp)
          have z3 := hgx.cell z1 (by simp)
          have z4 := hgx.cell z2 (by simp)
          clear ho10
          refine hK _ _ ?_
          clear hK KK
          refine wpAny_ready (rs := [20]) (by kernel_rfl) (by simp) ?_
          refine AllReady.cons rfl (fun KK hK => ?_) ?_
          · go_simp
            refine hK _ _ ?_
            clear hK KK
            refine wpAny_ready (rs := [23]) (by kernel_rfl) (by simp) ?_
            refine AllReady.cons rfl (fun KK hK => ?_) ?_
            · go_simp
              refine (same_any _ (.slice a6 V.length c6) v10 V V (T1.out.grown hgx) HO10.out).mono ?_
              rintro e w' ⟨rfl, rfl⟩
              refine hK _ _ ?_
              clear hK KK
              refine wpAny_take (i := 24) (v := ?_) rfl (by kernel_rfl) (by kernel_rfl) (by kernel_rfl) (fun _ _ _ h => h) (Or.inl ⟨by kernel_rfl, ?_⟩) ?_
              rotate_left 1
              · intro w; go_simp
                try with_reducible rfl
              refine wpAny_take (i := 25) (v := ?_) rfl (by kernel_rfl) (by kernel_rfl) (by kernel_rfl) (fun _ _ _ h => h) (Or.inl ⟨by kernel_rfl, ?_⟩) ?_
              rotate_left 1
              · intro w; go_simp
                try with_reducible rfl
              refine wpAny_take (i := 26) (v := ?_) rfl (by kernel_rfl) (by kernel_rfl) (by kernel_rfl) (fun _ _ _ h => h) (Or.inl ⟨by kernel_rfl, ?_⟩) ?_
              rotate_left 1
              · intro w; go_simp
                try with_reducible rfl
              refine wpAny_take (i := 27) (v := ?_) rfl (by kernel_rfl) (by kernel_rfl) (by kernel_rfl) (fun _ _ _ h => h) (Or.inl ⟨by kernel_rfl, ?_⟩) ?_
              rotate_left 1
              · intro w; go_simp
                try with_reducible rfl
              refine wpAny_ready (rs := [28]) (by kernel_rfl) (by simp) ?_
              refine AllReady.cons rfl (fun KK hK => ?_) ?_
              · go_simp
                refine (same_any _ (.slice a2 K.length c2) v3 K K (T4.out.grown hgx) (T5.out.grown hgx)).mono ?_
                rintro e w' ⟨rfl, rfl⟩
                refine hK _ _ ?_
                clear hK KK
                refine wpAny_take (i := 29) (v := ?_) rfl (by kernel_rfl) (by kernel_rfl) (by kernel_rfl) (fun _ _ _ h => h) (Or.inl ⟨by kernel_rfl, ?_⟩) ?_
                rotate_left 1
                · intro w; go_simp
                  try with_reducible rfl
                refine wpAny_take (i := 30) (v := undef) rfl (by kernel_rfl) (by kernel_rfl) (by kernel_rfl) (fun _ _ _ h => h) (Or.inr ⟨by kernel_rfl, rfl⟩) ?_
                refine wpAny_take (i := 31) (v := undef) rfl (by kernel_rfl) (by kernel_rfl) (by kernel_rfl) (fun _ _ _ h => h) (Or.inr ⟨by kernel_rfl, rfl⟩) ?_
                refine wpAny_take (i := 32) (v := undef) rfl (by kernel_rfl) (by kernel_rfl) (by kernel_rfl) (fun _ _ _ h => h) (Or.inr ⟨by kernel_rfl, rfl⟩) ?_
                refine wpAny_take (i := 33) (v := undef) rfl (by kernel_rfl) (by kernel_rfl) (by kernel_rfl) (fun _ _ _ h => h) (Or.inr ⟨by kernel_rfl, rfl⟩) ?_
                refine wpAny_take (i := 34) (v := undef) rfl (by kernel_rfl) (by kernel_rfl) (by kernel_rfl) (fun _ _ _ h => h) (Or.inr ⟨by kernel_rfl, rfl⟩) ?_
                refine wpAny_take (i := 35) (v := undef) rfl (by kernel_rfl) (by kernel_rfl) (by kernel_rfl) (fun _ _ _ h => h) (Or.inr ⟨by kernel_rfl, rfl⟩) ?_
                refine wpAny_take (i := 36) (v := undef) rfl (by kernel_rfl) (by kernel_rfl) (by kernel_rfl) (fun _ _ _ h => h) (Or.inr ⟨by kernel_rfl, rfl⟩) ?_
                refine wpAny_take (i := 37) (v := undef) rfl (by kernel_rfl) (by kernel_rfl) (by kernel_rfl) (fun _ _ _ h => h) (Or.inr ⟨by kernel_rfl, rfl⟩) ?_
                refine wpAny_take (i := 38) (v := undef) rfl (by kernel_rfl) (by kernel_rfl) (by kernel_rfl) (fun _ _ _ h => h) (Or.inr ⟨by kernel_rfl, rfl⟩) ?_
                refine wpAny_take (i := 39) (v := undef) rfl (by kernel_rfl) (by kernel_rfl) (by kernel_rfl) (fun _ _ _ h => h) (Or.inr ⟨by kernel_rfl, rfl⟩) ?_
                refine wpAny_take (i := 40) (v := undef) rfl (by kernel_rfl) (by kernel_rfl) (by kernel_rfl) (fun _ _ _ h => h) (Or.inr ⟨by kernel_rfl, rfl⟩) ?_
                refine wpAny_take (i := 41) (v := undef) rfl (by kernel_rfl) (by kernel_rfl) (by kernel_rfl) (fun _ _ _ h => h) (Or.inr ⟨by kernel_rfl, rfl⟩) ?_
                refine wpAny_take (i := 42) (v := ?_) rfl (by kernel_rfl) (by kernel_rfl) (by kernel_rfl) (fun _ _ _ h => h) (Or.inl ⟨by kernel_rfl, ?_⟩) ?_
                rotate_left 1
                · intro w; go_simp
                  try with_reducible rfl
                refine wpAny_take (i := 43) (v := ?_) rfl (by kernel_rfl) (by kernel_rfl) (by kernel_rfl) (fun _ _ _ h => h) (Or.inl ⟨by kernel_rfl, ?_⟩) ?_
                rotate_left 1
                · intro w; go_simp
                  try with_reducible rfl
                refine wpAny_take (i := 44) (v := ?_) rfl (by kernel_rfl) (by kernel_rfl) (by kernel_rfl) (fun _ _ _ h => h) (Or.inl ⟨by kernel_rfl, ?_⟩) ?_
                rotate_left 1
                · intro w; go_simp
                  try with_reducible rfl
                refine wpAny_take (i := 45) (v := ?_) rfl (by kernel_rfl) (by kernel_rfl) (by kernel_rfl) (fun _ _ _ h => h) (Or.inl ⟨by kernel_rfl, ?_⟩) ?_
                rotate_left 1
                · intro w; go_simp
                  try with_reducible rfl
                refine wpAny_ready (rs := [46]) (by kernel_rfl) (by simp) ?_
                refine AllReady.cons rfl (fun KK hK => ?_) ?_
                · go_simp
                  refine (HChk.out _ v5 (T6.out.grown hgx)).mono ?_
                  rintro e w11 ⟨rfl, hg11⟩
                  have hgz := grown_trans hgx hg11
                  refine hK _ _ ?_
                  clear hK KK
                  refine wpAny_take (i := 47) (v := ?_) rfl (by kernel_rfl) (by kernel_rfl) (by kernel_rfl) (fun _ _ _ h => h) (Or.inl ⟨by kernel_rfl, ?_⟩) ?_
                  rotate_left 1
                  · intro w; go_simp
                    try with_reducible rfl
                  refine wpAny_take (i := 48) (v := ?_) rfl (by kernel_rfl) (by kernel_rfl) (by kernel_rfl) (fun _ _ _ h => h) (Or.inl ⟨by kernel_rfl, ?_⟩) ?_
                  rotate_left 1
                  · intro w; go_simp
                    try with_reducible rfl
                  refine wpAny_take (i := 49) (v := ?_) rfl (by kernel_rfl) (by kernel_rfl) (by kernel_rfl) (fun _ _ _ h => h) (Or.inl ⟨by kernel_rfl, ?_⟩) ?_
                  rotate_left 1
                  · intro w; go_simp
                    try with_reducible rfl
                  refine wpAny_done (by kernel_rfl) ?_ _
                  go_wp2
                  go_ret
                  exact ⟨rfl, grown_trans hgW hgz⟩
                exact AllReady.nil
              exact AllReady.nil
            exact AllReady.nil
          exact AllReady.nil
        exact AllReady.nil
      exact AllReady.nil
    · obtain ⟨e1, e2⟩ := HNE.out hKB
      subst e1
      subst e2
      have SAB : Hid (∀ w', wc.grownBy w' none → Calls Try.prog 13 #[.slice a2 K.length c2, v3] w' fun e w'' => e = .returned (.bool false) ∧ w'' = w') := fun w' hg => by
        have := same_any w' (.slice a2 K.length c2) v3 K B (T4.out.grown hg) (T5.out.grown hg)
        rw [decide_eq_false hKB] at this
        exact this
      clear hKB HNE
      refine wp_region_any (by kernel_rfl) ?_
      try (change wpAny _ _ _ _ _ _ _ (World.drew _))
      refine wpAny_take (i := 0) (v := ?_) rfl (by kernel_rfl) (by kernel_rfl) (by kernel_rfl) (fun _ _ _ h => h) (Or.inl ⟨by kernel_rfl, ?_⟩) ?_
      rotate_left 1
      · intro w; go_simp
        try with_reducible rfl
      refine wpAny_take (i := 1) (v := ?_) rfl (by kernel_rfl) (by kernel_rfl) (by kernel_rfl) (fun _ _ _ h => h) (Or.inl ⟨by kernel_rfl, ?_⟩) ?_
      rotate_left 1
      · intro w; go_simp
        try with_reducible rfl
      refine wpAny_take (i := 2) (v := ?_) rfl (by kernel_rfl) (by kernel_rfl) (by kernel_rfl) (fun _ _ _ h => h) (Or.inl ⟨by kernel_rfl, ?_⟩) ?_
      rotate_left 1
      · intro w; go_simp
        try with_reducible rfl
      refine wpAny_take (i := 3) (v := ?_) rfl (by kernel_rfl) (by kernel_rfl) (by kernel_rfl) (fun _ _ _ h => h) (Or.inl ⟨by kernel_rfl, ?_⟩) ?_
      rotate_left 1
      · intro w; go_simp
        try with_reducible rfl
      refine wpAny_take (i := 4) (v := ?_) rfl (by kernel_rfl) (by kernel_rfl) (by kernel_rfl) (fun _ _ _ h => h) (Or.inl ⟨by kernel_rfl, ?_⟩) ?_
      rotate_left 1
      · intro w; go_simp
        try with_reducible rfl
      refine wpAny_take (i := 5) (v := ?_) rfl (by kernel_rfl) (by kernel_rfl) (by kernel_rfl) (fun _ _ _ h => h) (Or.inl ⟨by kernel_rfl, ?_⟩) ?_
      rotate_left 1
      · intro w; go_simp
        try with_reducible rfl
      refine wpAny_take (i := 6) (v := ?_) rfl (by kernel_rfl) (by kernel_rfl) (by kernel_rfl) (fun _ _ _ h => h) (Or.inl ⟨by kernel_rfl, ?_⟩) ?_
      rotate_left 1
      · intro w; go_simp
        try with_reducible rfl
      refine wpAny_take (i := 7) (v := ?_) rfl (by kernel_rfl) (by kernel_rfl) (by kernel_rfl) (fun _ _ _ h => h) (Or.inl ⟨by kernel_rfl, ?_⟩) ?_
      rotate_left 1
      · intro w; go_simp
        try with_reducible rfl
      refine wpAny_take (i := 8) (v := ?_) rfl (by kernel_rfl) (by kernel_rfl) (by kernel_rfl) (fun _ _ _ h => h) (Or.inl ⟨by kernel_rfl, ?_⟩) ?_
      rotate_left 1
      · intro w; go_simp
        try with_reducible rfl
      refine wpAny_take (i := 9) (v := ?_) rfl (by kernel_rfl) (by kernel_rfl) (by kernel_rfl) (fun _ _ _ h => h) (Or.inl ⟨by kernel_rfl, ?_⟩) ?_
      rotate_left 1
      · intro w; go_simp
        try with_reducible rfl
      refine wpAny_take (i := 10) (v := ?_) rfl (by kernel_rfl) (by kernel_rfl) (by kernel_rfl) (fun _ _ _ h => h) (Or.inl ⟨by kernel_rfl, ?_⟩) ?_
      rotate_left 1
      · intro w; go_simp
        try with_reducible rfl
      refine wpAny_take (i := 11) (v := ?_) rfl (by kernel_rfl) (by kernel_rfl) (by kernel_rfl) (fun _ _ _ h => h) (Or.inl ⟨by kernel_rfl, ?_⟩) ?_
      rotate_left 1
      · intro w; go_simp
        try with_reducible rfl
      refine wpAny_take (i := 12) (v := ?_) rfl (by kernel_rfl) (by kernel_rfl) (by kernel_rfl) (fun _ _ _ h => h) (Or.inl ⟨by kernel_rfl, ?_⟩) ?_
      rotate_left 1
      · intro w; go_simp
        try with_reducible rfl
      refine wpAny_take (i := 13) (v := ?_) rfl (by kernel_rfl) (by kernel_rfl) (by kernel_rfl) (fun _ _ _ h => h) (Or.inl ⟨by kernel_rfl, ?_⟩) ?_
      rotate_left 1
      · intro w; go_simp
        try with_reducible rfl
      refine wpAny_take (i := 14) (v := ?_) rfl (by kernel_rfl) (by kernel_rfl) (by kernel_rfl) (fun _ _ _ h => h) (Or.inl ⟨by kernel_rfl, ?_⟩) ?_
      rotate_left 1
      · intro w; go_simp
        try with_reducible rfl
      refine wpAny_take (i := 15) (v := ?_) rfl (by kernel_rfl) (by kernel_rfl) (by kernel_rfl) (fun _ _ _ h => h) (Or.inl ⟨by kernel_rfl, ?_⟩) ?_
      rotate_left 1
      · intro w; go_simp
        try with_reducible rfl
      refine wpAny_ready (rs := [16]) (by kernel_rfl) (by simp) ?_
      refine AllReady.cons rfl (fun KK hK => ?_) ?_
      · go_simp
        refine hK _ _ ?_
        clear hK KK
        refine wpAny_take (i := 17) (v := ?_) rfl (by kernel_rfl) (by kernel_rfl) (by kernel_rfl) (fun _ _ _ h => h) (Or.inl ⟨by kernel_rfl, ?_⟩) ?_
        rotate_left 1
        · intro w; go_simp
          try with_reducible rfl
        refine wpAny_take (i := 18) (v := ?_) rfl (by kernel_rfl) (by kernel_rfl) (by kernel_rfl) (fun _ _ _ h => h) (Or.inl ⟨by kernel_rfl, ?_⟩) ?_
        rotate_left 1
        · intro w; go_simp
          try with_reducible rfl
        refine wpAny_take (i := 19) (v := ?_) rfl (by kernel_rfl) (by kernel_rfl) (by kernel_rfl) (fun _ _ _ h => h) (Or.inl ⟨by kernel_rfl, ?_⟩) ?_
        rotate_left 1
        · intro w; go_simp
          try with_reducible rfl
        refine wpAny_take (i := 21) (v := ?_) rfl (by kernel_rfl) (by kernel_rfl) (by kernel_rfl) (fun _ _ _ h => h) (Or.inl ⟨by kernel_rfl, ?_⟩) ?_
        rotate_left 1
        · intro w; go_simp
          try with_reducible rfl
        refine wpAny_ready (rs := [20, 22]) (by kernel_rfl) (by simp) ?_
        refine AllReady.cons rfl (fun KK hK => ?_) ?_
        · go_simp
          refine hK _ _ ?_
          clear hK KK
          refine wpAny_ready (rs := [22]) (by kernel_rfl) (by simp) ?_
          refine AllReady.cons rfl (fun KK hK => ?_) ?_
          · go_simp
            refine (SO.out _ ?_).mono ?_
            · exact hgWd
            rintro e w10 ⟨v10, rfl, ho10, hg10⟩
            have hgx := grown_trans hgdr hg10
            have HO10 : Hid (SliceIs w10 v10 V) := ho10.slice
            have x3 := hgx.cell x2 (by simp)
            have y3 := hgx.cell y1 (by simp)
            have y4 := hgx.cell y2 (by simp)
            have z3 := hgx.cell z1 (by simp)
            have z4 := hgx.cell z2 (by simp)
            clear ho10
            refine hK _ _ ?_
            clear hK KK
            refine wpAny_ready (rs := [23]) (by kernel_rfl) (by simp) ?_
            refine AllReady.cons rfl (fun KK hK => ?_) ?_
            · go_simp
              refine (same_any _ (.slice a6 V.length c6) v10 V V (T1.out.grown hgx) HO10.out).mono ?_
              rintro e w' ⟨rfl, rfl⟩
              refine hK _ _ ?_
              clear hK KK
              refine wpAny_take (i := 24) (v := ?_) rfl (by kernel_rfl) (by kernel_rfl) (by kernel_rfl) (fun _ _ _ h => h) (Or.inl ⟨by kernel_rfl, ?_⟩) ?_
              rotate_left 1
              · intro w; go_simp
                try with_reducible rfl
              refine wpAny_take (i := 25) (v := ?_) rfl (by kernel_rfl) (by kernel_rfl) (by kernel_rfl) (fun _ _ _ h => h) (Or.inl ⟨by kernel_rfl, ?_⟩) ?_
              rotate_left 1
              · intro w; go_simp
                try with_reducible rfl
              refine wpAny_take (i := 26) (v := ?_) rfl (by kernel_rfl) (by kernel_rfl) (by kernel_rfl) (fun _ _ _ h => h) (Or.inl ⟨by kernel_rfl, ?_⟩) ?_
              rotate_left 1
              · intro w; go_simp
                try with_reducible rfl
              refine wpAny_take (i := 27) (v := ?_) rfl (by kernel_rfl) (by kernel_rfl) (by kernel_rfl) (fun _ _ _ h => h) (Or.inl ⟨by kernel_rfl, ?_⟩) ?_
              rotate_left 1
              · intro w; go_simp
                try with_reducible rfl
              refine wpAny_ready (rs := [28]) (by kernel_rfl) (by simp) ?_
              refine AllReady.cons rfl (fun KK hK => ?_) ?_
              · go_simp
                refine (SAB.out _ hgx).mono ?_
                rintro e w' ⟨rfl, rfl⟩
                refine hK _ _ ?_
                clear hK KK
                refine wpAny_take (i := 29) (v := ?_) rfl (by kernel_rfl) (by kernel_rfl) (by kernel_rfl) (fun _ _ _ h => h) (Or.inl ⟨by kernel_rfl, ?_⟩) ?_
                rotate_left 1
                · intro w; go_simp
                  try with_reducible rfl
                refine wpAny_take (i := 30) (v := ?_) rfl (by kernel_rfl) (by kernel_rfl) (by kernel_rfl) (fun _ _ _ h => h) (Or.inl ⟨by kernel_rfl, ?_⟩) ?_
                rotate_left 1
                · intro w; go_simp
                  try with_reducible rfl
                refine wpAny_take (i := 32) (v := ?_) rfl (by kernel_rfl) (by kernel_rfl) (by kernel_rfl) (fun _ _ _ h => h) (Or.inl ⟨by kernel_rfl, ?_⟩) ?_
                rotate_left 1
                · intro w; go_simp
                  try with_reducible rfl
                refine wpAny_ready (rs := [31, 33]) (by kernel_rfl) (by simp) ?_
                refine AllReady.cons rfl (fun KK hK => ?_) ?_
                · go_simp
                  refine hK _ _ ?_
                  clear hK KK
                  refine wpAny_ready (rs := [33]) (by kernel_rfl) (by simp) ?_
                  refine AllReady.cons rfl (fun KK hK => ?_) ?_
                  · go_simp
                    refine hK _ _ ?_
                    clear hK KK
                    refine wpAny_take (i := 34) (v := ?_) rfl (by kernel_rfl) (by kernel_rfl) (by kernel_rfl) (fun _ _ _ h => h) (Or.inl ⟨by kernel_rfl, ?_⟩) ?_
                    rotate_left 1
                    · intro w; go_simp
                      try with_reducible rfl
                    refine wpAny_take (i := 35) (v := ?_) rfl (by kernel_rfl) (by kernel_rfl) (by kernel_rfl) (fun _ _ _ h => h) (Or.inl ⟨by kernel_rfl, ?_⟩) ?_
                    rotate_left 1
                    · intro w; go_simp
                      try with_reducible rfl
                    refine wpAny_take (i := 36) (v := ?_) rfl (by kernel_rfl) (by kernel_rfl) (by kernel_rfl) (fun _ _ _ h => h) (Or.inl ⟨by kernel_rfl, ?_⟩) ?_
                    rotate_left 1
                    · intro w; go_simp
                      try with_reducible rfl
                    refine wpAny_take (i := 38) (v := ?_) rfl (by kernel_rfl) (by kernel_rfl) (by kernel_rfl) (fun _ _ _ h => h) (Or.inl ⟨by kernel_rfl, ?_⟩) ?_
                    rotate_left 1
                    · intro w; go_simp
                      try with_reducible rfl
                    refine wpAny_ready (rs := [37, 39]) (by kernel_rfl) (by simp) ?_
                    refine AllReady.cons rfl (fun KK hK => ?_) ?_
                    · go_simp
                      refine hK _ _ ?_
                      clear hK KK
                      refine wpAny_ready (rs := [39]) (by kernel_rfl) (by simp) ?_
                      refine AllReady.cons rfl (fun KK hK => ?_) ?_
                      · go_simp
                        refine hK _ _ ?_
                        clear hK KK
                        refine wpAny_ready (rs := [40]) (by kernel_rfl) (by simp) ?_
                        refine AllReady.cons rfl (fun KK hK => ?_) ?_
                        · go_simp
                          refine (same_any _ (.slice a7 V2.length c7) (.slice a8 V2.length c8) V2 V2 (T2.out.grown hgx) (T3.out.grown hgx)).mono ?_
                          rintro e w' ⟨rfl, rfl⟩
                          refine hK _ _ ?_
                          clear hK KK
                          refine wpAny_take (i := 41) (v := ?_) rfl (by kernel_rfl) (by kernel_rfl) (by kernel_rfl) (fun _ _ _ h => h) (Or.inl ⟨by kernel_rfl, ?_⟩) ?_
                          rotate_left 1
                          · intro w; go_simp
                            try with_reducible rfl
                          refine wpAny_take (i := 42) (v := ?_) rfl (by kernel_rfl) (by kernel_rfl) (by kernel_rfl) (fun _ _ _ h => h) (Or.inl ⟨by kernel_rfl, ?_⟩) ?_
                          rotate_left 1
                          · intro w; go_simp
                            try with_reducible rfl
                          refine wpAny_take (i := 43) (v := ?_) rfl (by kernel_rfl) (by kernel_rfl) (by kernel_rfl) (fun _ _ _ h => h) (Or.inl ⟨by kernel_rfl, ?_⟩) ?_
                          rotate_left 1
                          · intro w; go_simp
                            try with_reducible rfl
                          refine wpAny_take (i := 44) (v := ?_) rfl (by kernel_rfl) (by kernel_rfl) (by kernel_rfl) (fun _ _ _ h => h) (Or.inl ⟨by kernel_rfl, ?_⟩) ?_
                          rotate_left 1
                          · intro w; go_simp
                            try with_reducible rfl
                          refine wpAny_take (i := 45) (v := ?_) rfl (by kernel_rfl) (by kernel_rfl) (by kernel_rfl) (fun _ _ _ h => h) (Or.inl ⟨by kernel_rfl, ?_⟩) ?_
                          rotate_left 1
                          · intro w; go_simp
                            try with_reducible rfl
                          refine wpAny_ready (rs := [46]) (by kernel_rfl) (by simp) ?_
                          refine AllReady.cons rfl (fun KK hK => ?_) ?_
                          · go_simp
                            refine (HChk.out _ v5 (T6.out.grown hgx)).mono ?_
                            rintro e w11 ⟨rfl, hg11⟩
                            have hgz := grown_trans hgx hg11
                            refine hK _ _ ?_
                            clear hK KK
                            refine wpAny_take (i := 47) (v := ?_) rfl (by kernel_rfl) (by kernel_rfl) (by kernel_rfl) (fun _ _ _ h => h) (Or.inl ⟨by kernel_rfl, ?_⟩) ?_
                            rotate_left 1
                            · intro w; go_simp
                              try with_reducible rfl
                            refine wpAny_take (i := 48) (v := ?_) rfl (by kernel_rfl) (by kernel_rfl) (by kernel_rfl) (fun _ _ _ h => h) (Or.inl ⟨by kernel_rfl, ?_⟩) ?_
                            rotate_left 1
                            · intro w; go_simp
                              try with_reducible rfl
                            refine wpAny_take (i := 49) (v := ?_) rfl (by kernel_rfl) (by kernel_rfl) (by kernel_rfl) (fun _ _ _ h => h) (Or.inl ⟨by kernel_rfl, ?_⟩) ?_
                            rotate_left 1
                            · intro w; go_simp
                              try with_reducible rfl
                            refine wpAny_done (by kernel_rfl) ?_ _
                            go_wp2
                            go_ret
                            exact ⟨rfl, grown_trans hgW hgz⟩
                          exact AllReady.nil
                        exact AllReady.nil
                      exact AllReady.nil
                    refine AllReady.cons rfl (fun KK hK => ?_) ?_
                    · go_simp
                      refine hK _ _ ?_
                      clear hK KK
                      refine wpAny_ready (rs := [37]) (by kernel_rfl) (by simp) ?_
                      refine AllReady.cons rfl (fun KK hK => ?_) ?_
                      · go_simp
                        refine hK _ _ ?_
                        clear hK KK
                        refine wpAny_ready (rs := [40]) (by kernel_rfl) (by simp) ?_
                        refine AllReady.cons rfl (fun KK hK => ?_) ?_
                        · go_simp
                          refine (same_any _ (.slice a7 V2.length c7) (.slice a8 V2.length c8) V2 V2 (T2.out.grown hgx) (T3.out.grown hgx)).mono ?_
                          rintro e w' ⟨rfl, rfl⟩
                          refine hK _ _ ?_
                          clear hK KK
                          refine wpAny_take (i := 41) (v := ?_) rfl (by kernel_rfl) (by kernel_rfl) (by kernel_rfl) (fun _ _ _ h => h) (Or.inl ⟨by kernel_rfl, ?_⟩) ?_
                          rotate_left 1
                          · intro w; go_simp
                            try with_reducible rfl
                          refine wpAny_take (i := 42) (v := ?_) rfl (by kernel_rfl) (by kernel_rfl) (by kernel_rfl) (fun _ _ _ h => h) (Or.inl ⟨by kernel_rfl, ?_⟩) ?_
                          rotate_left 1
                          · intro w; go_simp
                            try with_reducible rfl
                          refine wpAny_take (i := 43) (v := ?_) rfl (by kernel_rfl) (by kernel_rfl) (by kernel_rfl) (fun _ _ _ h => h) (Or.inl ⟨by kernel_rfl, ?_⟩) ?_
                          rotate_left 1
                          · intro w; go_simp
                            try with_reducible rfl
                          refine wpAny_take (i := 44) (v := ?_) rfl (by kernel_rfl) (by kernel_rfl) (by kernel_rfl) (fun _ _ _ h => h) (Or.inl ⟨by kernel_rfl, ?_⟩) ?_
                          rotate_left 1
                          · intro w; go_simp
                            try with_reducible rfl
                          refine wpAny_take (i := 45) (v := ?_) rfl (by kernel_rfl) (by kernel_rfl) (by kernel_rfl) (fun _ _ _ h => h) (Or.inl ⟨by kernel_rfl, ?_⟩) ?_
                          rotate_left 1
                          · intro w; go_simp
                            try with_reducible rfl
                          refine wpAny_ready (rs := [46]) (by kernel_rfl) (by simp) ?_
                          refine AllReady.cons rfl (fun KK hK => ?_) ?_
                          · go_simp
                            refine (HChk.out _ v5 (T6.out.grown hgx)).mono ?_
                            rintro e w11 ⟨rfl, hg11⟩
                            have hgz := grown_trans hgx hg11
                            refine hK _ _ ?_
                            clear hK KK
                            refine wpAny_take (i := 47) (v := ?_) rfl (by kernel_rfl) (by kernel_rfl) (by kernel_rfl) (fun _ _ _ h => h) (Or.inl ⟨by kernel_rfl, ?_⟩) ?_
                            rotate_left 1
                            · intro w; go_simp
                              try with_reducible rfl
                            refine wpAny_take (i := 48) (v := ?_) rfl (by kernel_rfl) (by kernel_rfl) (by kernel_rfl) (fun _ _ _ h => h) (Or.inl ⟨by kernel_rfl, ?_⟩) ?_
                            rotate_left 1
                            · intro w; go_simp
                              try with_reducible rfl
                            refine wpAny_take (i := 49) (v := ?_) rfl (by kernel_rfl) (by kernel_rfl) (by kernel_rfl) (fun _ _ _ h => h) (Or.inl ⟨by kernel_rfl, ?_⟩) ?_
                            rotate_left 1
                            · intro w; go_simp
                              try with_reducible rfl
                            refine wpAny_done (by kernel_rfl) ?_ _
                            go_wp2
                            go_ret
                            exact ⟨rfl, grown_trans hgW hgz⟩
                          exact AllReady.nil
                        exact AllReady.nil
                      exact AllReady.nil
                    exact AllReady.nil
                  exact AllReady.nil
                refine AllReady.cons rfl (fun KK hK => ?_) ?_
                · go_simp
                  refine hK _ _ ?_
                  clear hK KK
                  refine wpAny_ready (rs := [31]) (by kernel_rfl) (by simp) ?_
                  refine AllReady.cons rfl (fun KK hK => ?_) ?_
                  · go_simp
                    refine hK _ _ ?_
                    clear hK KK
                    refine wpAny_take (i := 34) (v := ?_) rfl (by kernel_rfl) (by kernel_rfl) (by kernel_rfl) (fun _ _ _ h => h) (Or.inl ⟨by kernel_rfl, ?_⟩) ?_
                    rotate_left 1
                    · intro w; go_simp
                      try with_reducible rfl
                    refine wpAny_take (i := 35) (v := ?_) rfl (by kernel_rfl) (by kernel_rfl) (by kernel_rfl) (fun _ _ _ h => h) (Or.inl ⟨by kernel_rfl, ?_⟩) ?_
                    rotate_left 1
                    · intro w; go_simp
                      try with_reducible rfl
                    refine wpAny_take (i := 36) (v := ?_) rfl (by kernel_rfl) (by kernel_rfl) (by kernel_rfl) (fun _ _ _ h => h) (Or.inl ⟨by kernel_rfl, ?_⟩) ?_
                    rotate_left 1
                    · intro w; go_simp
                      try with_reducible rfl
                    refine wpAny_take (i := 38) (v := ?_) rfl (by kernel_rfl) (by kernel_rfl) (by kernel_rfl) (fun _ _ _ h => h) (Or.inl ⟨by kernel_rfl, ?_⟩) ?_
                    rotate_left 1
                    · intro w; go_simp
                      try with_reducible rfl
                    refine wpAny_ready (rs := [37, 39]) (by kernel_rfl) (by simp) ?_
                    refine AllReady.cons rfl (fun KK hK => ?_) ?_
                    · go_simp
                      refine hK _ _ ?_
                      clear hK KK
                      refine wpAny_ready (rs := [39]) (by kernel_rfl) (by simp) ?_
                      refine AllReady.cons rfl (fun KK hK => ?_) ?_
                      · go_simp
                        refine hK _ _ ?_
                        clear hK KK
                        refine wpAny_ready (rs := [40]) (by kernel_rfl) (by simp) ?_
                        refine AllReady.cons rfl (fun KK hK => ?_) ?_
                        · go_simp
                          refine (same_any _ (.slice a7 V2.length c7) (.slice a8 V2.length c8) V2 V2 (T2.out.grown hgx) (T3.out.grown hgx)).mono ?_
                          rintro e w' ⟨rfl, rfl⟩
                          refine hK _ _ ?_
                          clear hK KK
                          refine wpAny_take (i := 41) (v := ?_) rfl (by kernel_rfl) (by kernel_rfl) (by kernel_rfl) (fun _ _ _ h => h) (Or.inl ⟨by kernel_rfl, ?_⟩) ?_
                          rotate_left 1
                          · intro w; go_simp
                            try with_reducible rfl
                          refine wpAny_take (i := 42) (v := ?_) rfl (by kernel_rfl) (by kernel_rfl) (by kernel_rfl) (fun _ _ _ h => h) (Or.inl ⟨by kernel_rfl, ?_⟩) ?_
                          rotate_left 1
                          · intro w; go_simp
                            try with_reducible rfl
                          refine wpAny_take (i := 43) (v := ?_) rfl (by kernel_rfl) (by kernel_rfl) (by kernel_rfl) (fun _ _ _ h => h) (Or.inl ⟨by kernel_rfl, ?_⟩) ?_
                          rotate_left 1
                          · intro w; go_simp
                            try with_reducible rfl
                          refine wpAny_take (i := 44) (v := ?_) rfl (by kernel_rfl) (by kernel_rfl) (by kernel_rfl) (fun _ _ _ h => h) (Or.inl ⟨by kernel_rfl, ?_⟩) ?_
                          rotate_left 1
                          · intro w; go_simp
                            try with_reducible rfl
                          refine wpAny_take (i := 45) (v := ?_) rfl (by kernel_rfl) (by kernel_rfl) (by kernel_rfl) (fun _ _ _ h => h) (Or.inl ⟨by kernel_rfl, ?_⟩) ?_
                          rotate_left 1
                          · intro w; go_simp
                            try with_reducible rfl
                          refine wpAny_ready (rs := [46]) (by kernel_rfl) (by simp) ?_
                          refine AllReady.cons rfl (fun KK hK => ?_) ?_
                          · go_simp
                            refine (HChk.out _ v5 (T6.out.grown hgx)).mono ?_
                            rintro e w11 ⟨rfl, hg11⟩
                            have hgz := grown_trans hgx hg11
                            refine hK _ _ ?_
                            clear hK KK
                            refine wpAny_take (i := 47) (v := ?_) rfl (by kernel_rfl) (by kernel_rfl) (by kernel_rfl) (fun _ _ _ h => h) (Or.inl ⟨by kernel_rfl, ?_⟩) ?_
                            rotate_left 1
                            · intro w; go_simp
                              try with_reducible rfl
                            refine wpAny_take (i := 48) (v := ?_) rfl (by kernel_rfl) (by kernel_rfl) (by kernel_rfl) (fun _ _ _ h => h) (Or.inl ⟨by kernel_rfl, ?_⟩) ?_
                            rotate_left 1
                            · intro w; go_simp
                              try with_reducible rfl
                            refine wpAny_take (i := 49) (v := ?_) rfl (by kernel_rfl) (by kernel_rfl) (by kernel_rfl) (fun _ _ _ h => h) (Or.inl ⟨by kernel_rfl, ?_⟩) ?_
                            rotate_left 1
                            · intro w; go_simp
                              try with_reducible rfl
                            refine wpAny_done (by kernel_rfl) ?_ _
                            go_wp2
                            go_ret
                            exact ⟨rfl, grown_trans hgW hgz⟩
                          exact AllReady.nil
                        exact AllReady.nil
                      exact AllReady.nil
                    refine AllReady.cons rfl (fun KK hK => ?_) ?_
                    · go_simp
                      refine hK _ _ ?_
                      clear hK KK
                      refine wpAny_ready (rs := [37]) (by kernel_rfl) (by simp) ?_
                      refine AllReady.cons rfl (fun KK hK => ?_) ?_
                      · go_simp
                        refine hK _ _ ?_
                        clear hK KK
                        refine wpAny_ready (rs := [40]) (by kernel_rfl) (by simp) ?_
                        refine AllReady.cons rfl (fun KK hK => ?_) ?_
                        · go_simp
                          refine (same_any _ (.slice a7 V2.length c7) (.slice a8 V2.length c8) V2 V2 (T2.out.grown hgx) (T3.out.grown hgx)).mono ?_
                          rintro e w' ⟨rfl, rfl⟩
                          refine hK _ _ ?_
                          clear hK KK
                          refine wpAny_take (i := 41) (v := ?_) rfl (by kernel_rfl) (by kernel_rfl) (by kernel_rfl) (fun _ _ _ h => h) (Or.inl ⟨by kernel_rfl, ?_⟩) ?_
                          rotate_left 1
                          · intro w; go_simp
                            try with_reducible rfl
                          refine wpAny_take (i := 42) (v := ?_) rfl (by kernel_rfl) (by kernel_rfl) (by kernel_rfl) (fun _ _ _ h => h) (Or.inl ⟨by kernel_rfl, ?_⟩) ?_
                          rotate_left 1
                          · intro w; go_simp
                            try with_reducible rfl
                          refine wpAny_take (i := 43) (v := ?_) rfl (by kernel_rfl) (by kernel_rfl) (by kernel_rfl) (fun _ _ _ h => h) (Or.inl ⟨by kernel_rfl, ?_⟩) ?_
                          rotate_left 1
                          · intro w; go_simp
                            try with_reducible rfl
                          refine wpAny_take (i := 44) (v := ?_) rfl (by kernel_rfl) (by kernel_rfl) (by kernel_rfl) (fun _ _ _ h => h) (Or.inl ⟨by kernel_rfl, ?_⟩) ?_
                          rotate_left 1
                          · intro w; go_simp
                            try with_reducible rfl
                          refine wpAny_take (i := 45) (v := ?_) rfl (by kernel_rfl) (by kernel_rfl) (by kernel_rfl) (fun _ _ _ h => h) (Or.inl ⟨by kernel_rfl, ?_⟩) ?_
                          rotate_left 1
                          · intro w; go_simp
                            try with_reducible rfl
                          refine wpAny_ready (rs := [46]) (by kernel_rfl) (by simp) ?_
                          refine AllReady.cons rfl (fun KK hK => ?_) ?_
                          · go_simp
                            refine (HChk.out _ v5 (T6.out.grown hgx)).mono ?_
                            rintro e w11 ⟨rfl, hg11⟩
                            have hgz := grown_trans hgx hg11
                            refine hK _ _ ?_
                            clear hK KK
                            refine wpAny_take (i := 47) (v := ?_) rfl (by kernel_rfl) (by kernel_rfl) (by kernel_rfl) (fun _ _ _ h => h) (Or.inl ⟨by kernel_rfl, ?_⟩) ?_
                            rotate_left 1
                            · intro w; go_simp
                              try with_reducible rfl
                            refine wpAny_take (i := 48) (v := ?_) rfl (by kernel_rfl) (by kernel_rfl) (by kernel_rfl) (fun _ _ _ h => h) (Or.inl ⟨by kernel_rfl, ?_⟩) ?_
                            rotate_left 1
                            · intro w; go_simp
                              try with_reducible rfl
                            refine wpAny_take (i := 49) (v := ?_) rfl (by kernel_rfl) (by kernel_rfl) (by kernel_rfl) (fun _ _ _ h => h) (Or.inl ⟨by kernel_rfl, ?_⟩) ?_
                            rotate_left 1
                            · intro w; go_simp
                              try with_reducible rfl
                            refine wpAny_done (by kernel_rfl) ?_ _
                            go_wp2
                            go_ret
                            exact ⟨rfl, grown_trans hgW hgz⟩
                          exact AllReady.nil
                        exact AllReady.nil
                      exact AllReady.nil
                    exact AllReady.nil
                  exact AllReady.nil
                exact AllReady.nil
              exact AllReady.nil
            exact AllReady.nil
          exact AllReady.nil
        refine AllReady.cons rfl (fun KK hK => ?_) ?_
        · go_simp
          refine (SO.out _ ?_).mono ?_
          · exact hgWd
          rintro e w10 ⟨v10, rfl, ho10, hg10⟩
          have hgx := grown_trans hgdr hg10
          have HO10 : Hid (SliceIs w10 v10 V) := ho10.slice
          have x3 := hgx.cell x2 (by simp)
          have y3 := hgx.cell y1 (by simp)
          have y4 := hgx.cell y2 (by simp)
          have z3 := hgx.cell z1 (by simp)
          have z4 := hgx.cell z2 (by simp)
          clear ho10
          refine hK _ _ ?_
          clear hK KK
          refine wpAny_ready (rs := [20]) (by kernel_rfl) (by simp) ?_
          refine AllReady.cons rfl (fun KK hK => ?_) ?_
          · go_simp
            refine hK _ _ ?_
            clear hK KK
            refine wpAny_ready (rs := [23]) (by kernel_rfl) (by simp) ?_
            refine AllReady.cons rfl (fun KK hK => ?_) ?_
            · go_simp
              refine (same_any _ (.slice a6 V.length c6) v10 V V (T1.out.grown hgx) HO10.out).mono ?_
              rintro e w' ⟨rfl, rfl⟩
              refine hK _ _ ?_
              clear hK KK
              refine wpAny_take (i := 24) (v := ?_) rfl (by kernel_rfl) (by kernel_rfl) (by kernel_rfl) (fun _ _ _ h => h) (Or.inl ⟨by kernel_rfl, ?_⟩) ?_
              rotate_left 1
              · intro w; go_simp
                try with_reducible rfl
              refine wpAny_take (i := 25) (v := ?_) rfl (by kernel_rfl) (by kernel_rfl) (by kernel_rfl) (fun _ _ _ h => h) (Or.inl ⟨by kernel_rfl, ?_⟩) ?_
              rotate_left 1
              · intro w; go_simp
                try with_reducible rfl
              refine wpAny_take (i := 26) (v := ?_) rfl (by kernel_rfl) (by kernel_rfl) (by kernel_rfl) (fun _ _ _ h => h) (Or.inl ⟨by kernel_rfl, ?_⟩) ?_
              rotate_left 1
              · intro w; go_simp
                try with_reducible rfl
              refine wpAny_take (i := 27) (v := ?_) rfl (by kernel_rfl) (by kernel_rfl) (by kernel_rfl) (fun _ _ _ h => h) (Or.inl ⟨by kernel_rfl, ?_⟩) ?_
              rotate_left 1
              · intro w; go_simp
                try with_reducible rfl
              refine wpAny_ready (rs := [28]) (by kernel_rfl) (by simp) ?_
              refine AllReady.cons rfl (fun KK hK => ?_) ?_
              · go_simp
                refine (SAB.out _ hgx).mono ?_
                rintro e w' ⟨rfl, rfl⟩
                refine hK _ _ ?_
                clear hK KK
                refine wpAny_take (i := 29) (v := ?_) rfl (by kernel_rfl) (by kernel_rfl) (by kernel_rfl) (fun _ _ _ h => h) (Or.inl ⟨by kernel_rfl, ?_⟩) ?_
                rotate_left 1
                · intro w; go_simp
                  try with_reducible rfl
                refine wpAny_take (i := 30) (v := ?_) rfl (by kernel_rfl) (by kernel_rfl) (by kernel_rfl) (fun _ _ _ h => h) (Or.inl ⟨by kernel_rfl, ?_⟩) ?_
                rotate_left 1
                · intro w; go_simp
                  try with_reducible rfl
                refine wpAny_take (i := 32) (v := ?_) rfl (by kernel_rfl) (by kernel_rfl) (by kernel_rfl) (fun _ _ _ h => h) (Or.inl ⟨by kernel_rfl, ?_⟩) ?_
                rotate_left 1
                · intro w; go_simp
                  try with_reducible rfl
                refine wpAny_ready (rs := [31, 33]) (by kernel_rfl) (by simp) ?_
                refine AllReady.cons rfl (fun KK hK => ?_) ?_
                · go_simp
                  refine hK _ _ ?_
                  clear hK KK
                  refine wpAny_ready (rs := [33]) (by kernel_rfl) (by simp) ?_
                  refine AllReady.cons rfl (fun KK hK => ?_) ?_
                  · go_simp
                    refine hK _ _ ?_
                    clear hK KK
                    refine wpAny_take (i := 34) (v := ?_) rfl (by kernel_rfl) (by kernel_rfl) (by kernel_rfl) (fun _ _ _ h => h) (Or.inl ⟨by kernel_rfl, ?_⟩) ?_
                    rotate_left 1
                    · intro w; go_simp
                      try with_reducible rfl
                    refine wpAny_take (i := 35) (v := ?_) rfl (by kernel_rfl) (by kernel_rfl) (by kernel_rfl) (fun _ _ _ h => h) (Or.inl ⟨by kernel_rfl, ?_⟩) ?_
                    rotate_left 1
                    · intro w; go_simp
                      try with_reducible rfl
                    refine wpAny_take (i := 36) (v := ?_) rfl (by kernel_rfl) (by kernel_rfl) (by kernel_rfl) (fun _ _ _ h => h) (Or.inl ⟨by kernel_rfl, ?_⟩) ?_
                    rotate_left 1
                    · intro w; go_simp
                      try with_reducible rfl
                    refine wpAny_take (i := 38) (v := ?_) rfl (by kernel_rfl) (by kernel_rfl) (by kernel_rfl) (fun _ _ _ h => h) (Or.inl ⟨by kernel_rfl, ?_⟩) ?_
                    rotate_left 1
                    · intro w; go_simp
                      try with_reducible rfl
                    refine wpAny_ready (rs := [37, 39]) (by kernel_rfl) (by simp) ?_
                    refine AllReady.cons rfl (fun KK hK => ?_) ?_
                    · go_simp
                      refine hK _ _ ?_
                      clear hK KK
                      refine wpAny_ready (rs := [39]) (by kernel_rfl) (by simp) ?_
                      refine AllReady.cons rfl (fun KK hK => ?_) ?_
                      · go_simp
                        refine hK _ _ ?_
                        clear hK KK
                        refine wpAny_ready (rs := [40]) (by kernel_rfl) (by simp) ?_
                        refine AllReady.cons rfl (fun KK hK => ?_) ?_
                        · go_simp
                          refine (same_any _ (.slice a7 V2.length c7) (.slice a8 V2.length c8) V2 V2 (T2.out.grown hgx) (T3.out.grown hgx)).mono ?_
                          rintro e w' ⟨rfl, rfl⟩
                          refine hK _ _ ?_
                          clear hK KK
                          refine wpAny_take (i := 41) (v := ?_) rfl (by kernel_rfl) (by kernel_rfl) (by kernel_rfl) (fun _ _ _ h => h) (Or.inl ⟨by kernel_rfl, ?_⟩) ?_
                          rotate_left 1
                          · intro w; go_simp
                            try with_reducible rfl
                          refine wpAny_take (i := 42) (v := ?_) rfl (by kernel_rfl) (by kernel_rfl) (by kernel_rfl) (fun _ _ _ h => h) (Or.inl ⟨by kernel_rfl, ?_⟩) ?_
                          rotate_left 1
                          · intro w; go_simp
                            try with_reducible rfl
                          refine wpAny_take (i := 43) (v := ?_) rfl (by kernel_rfl) (by kernel_rfl) (by kernel_rfl) (fun _ _ _ h => h) (Or.inl ⟨by kernel_rfl, ?_⟩) ?_
                          rotate_left 1
                          · intro w; go_simp
                            try with_reducible rfl
                          refine wpAny_take (i := 44) (v := ?_) rfl (by kernel_rfl) (by kernel_rfl) (by kernel_rfl) (fun _ _ _ h => h) (Or.inl ⟨by kernel_rfl, ?_⟩) ?_
                          rotate_left 1
                          · intro w; go_simp
                            try with_reducible rfl
                          refine wpAny_take (i := 45) (v := ?_) rfl (by kernel_rfl) (by kernel_rfl) (by kernel_rfl) (fun _ _ _ h => h) (Or.inl ⟨by kernel_rfl, ?_⟩) ?_
                          rotate_left 1
                          · intro w; go_simp
                            try with_reducible rfl
                          refine wpAny_ready (rs := [46]) (by kernel_rfl) (by simp) ?_
                          refine AllReady.cons rfl (fun KK hK => ?_) ?_
                          · go_simp
                            refine (HChk.out _ v5 (T6.out.grown hgx)).mono ?_
                            rintro e w11 ⟨rfl, hg11⟩
                            have hgz := grown_trans hgx hg11
                            refine hK _ _ ?_
                            clear hK KK
                            refine wpAny_take (i := 47) (v := ?_) rfl (by kernel_rfl) (by kernel_rfl) (by kernel_rfl) (fun _ _ _ h => h) (Or.inl ⟨by kernel_rfl, ?_⟩) ?_
                            rotate_left 1
                            · intro w; go_simp
                              try with_reducible rfl
                            refine wpAny_take (i := 48) (v := ?_) rfl (by kernel_rfl) (by kernel_rfl) (by kernel_rfl) (fun _ _ _ h => h) (Or.inl ⟨by kernel_rfl, ?_⟩) ?_
                            rotate_left 1
                            · intro w; go_simp
                              try with_reducible rfl
                            refine wpAny_take (i := 49) (v := ?_) rfl (by kernel_rfl) (by kernel_rfl) (by kernel_rfl) (fun _ _ _ h => h) (Or.inl ⟨by kernel_rfl, ?_⟩) ?_
                            rotate_left 1
                            · intro w; go_simp
                              try with_reducible rfl
                            refine wpAny_done (by kernel_rfl) ?_ _
                            go_wp2
                            go_ret
                            exact ⟨rfl, grown_trans hgW hgz⟩
                          exact AllReady.nil
                        exact AllReady.nil
                      exact AllReady.nil
                    refine AllReady.cons rfl (fun KK hK => ?_) ?_
                    · go_simp
                      refine hK _ _ ?_
                      clear hK KK
                      refine wpAny_ready (rs := [37]) (by kernel_rfl) (by simp) ?_
                      refine AllReady.cons rfl (fun KK hK => ?_) ?_
                      · go_simp
                        refine hK _ _ ?_
                        clear hK KK
                        refine wpAny_ready (rs := [40]) (by kernel_rfl) (by simp) ?_
                        refine AllReady.cons rfl (fun KK hK => ?_) ?_
                        · go_simp
                          refine (same_any _ (.slice a7 V2.length c7) (.slice a8 V2.length c8) V2 V2 (T2.out.grown hgx) (T3.out.grown hgx)).mono ?_
                          rintro e w' ⟨rfl, rfl⟩
                          refine hK _ _ ?_
                          clear hK KK
                          refine wpAny_take (i := 41) (v := ?_) rfl (by kernel_rfl) (by kernel_rfl) (by kernel_rfl) (fun _ _ _ h => h) (Or.inl ⟨by kernel_rfl, ?_⟩) ?_
                          rotate_left 1
                          · intro w; go_simp
                            try with_reducible rfl
                          refine wpAny_take (i := 42) (v := ?_) rfl (by kernel_rfl) (by kernel_rfl) (by kernel_rfl) (fun _ _ _ h => h) (Or.inl ⟨by kernel_rfl, ?_⟩) ?_
                          rotate_left 1
                          · intro w; go_simp
                            try with_reducible rfl
                          refine wpAny_take (i := 43) (v := ?_) rfl (by kernel_rfl) (by kernel_rfl) (by kernel_rfl) (fun _ _ _ h => h) (Or.inl ⟨by kernel_rfl, ?_⟩) ?_
                          rotate_left 1
                          · intro w; go_simp
                            try with_reducible rfl
                          refine wpAny_take (i := 44) (v := ?_) rfl (by kernel_rfl) (by kernel_rfl) (by kernel_rfl) (fun _ _ _ h => h) (Or.inl ⟨by kernel_rfl, ?_⟩) ?_
                          rotate_left 1
                          · intro w; go_simp
                            try with_reducible rfl
                          refine wpAny_take (i := 45) (v := ?_) rfl (by kernel_rfl) (by kernel_rfl) (by kernel_rfl) (fun _ _ _ h => h) (Or.inl ⟨by kernel_rfl, ?_⟩) ?_
                          rotate_left 1
                          · intro w; go_simp
                            try with_reducible rfl
                          refine wpAny_ready (rs := [46]) (by kernel_rfl) (by simp) ?_
                          refine AllReady.cons rfl (fun KK hK => ?_) ?_
                          · go_simp
                            refine (HChk.out _ v5 (T6.out.grown hgx)).mono ?_
                            rintro e w11 ⟨rfl, hg11⟩
                            have hgz := grown_trans hgx hg11
                            refine hK _ _ ?_
                            clear hK KK
                            refine wpAny_take (i := 47) (v := ?_) rfl (by kernel_rfl) (by kernel_rfl) (by kernel_rfl) (fun _ _ _ h => h) (Or.inl ⟨by kernel_rfl, ?_⟩) ?_
                            rotate_left 1
                            · intro w; go_simp
                              try with_reducible rfl
                            refine wpAny_take (i := 48) (v := ?_) rfl (by kernel_rfl) (by kernel_rfl) (by kernel_rfl) (fun _ _ _ h => h) (Or.inl ⟨by kernel_rfl, ?_⟩) ?_
                            rotate_left 1
                            · intro w; go_simp
                              try with_reducible rfl
                            refine wpAny_take (i := 49) (v := ?_) rfl (by kernel_rfl) (by kernel_rfl) (by kernel_rfl) (fun _ _ _ h => h) (Or.inl ⟨by kernel_rfl, ?_⟩) ?_
                            rotate_left 1
                            · intro w; go_simp
                              try with_reducible rfl
                            refine wpAny_done (by kernel_rfl) ?_ _
                            go_wp2
                            go_ret
                            exact ⟨rfl, grown_trans hgW hgz⟩
                          exact AllReady.nil
                        exact AllReady.nil
                      exact AllReady.nil
                    exact AllReady.nil
                  exact AllReady.nil
                refine AllReady.cons rfl (fun KK hK => ?_) ?_
                · go_simp
                  refine hK _ _ ?_
                  clear hK KK
                  refine wpAny_ready (rs := [31]) (by kernel_rfl) (by simp) ?_
                  refine AllReady.cons rfl (fun KK hK => ?_) ?_
                  · go_simp
                    refine hK _ _ ?_
                    clear hK KK
                    refine wpAny_take (i := 34) (v := ?_) rfl (by kernel_rfl) (by kernel_rfl) (by kernel_rfl) (fun _ _ _ h => h) (Or.inl ⟨by kernel_rfl, ?_⟩) ?_
                    rotate_left 1
                    · intro w; go_simp
                      try with_reducible rfl
                    refine wpAny_take (i := 35) (v := ?_) rfl (by kernel_rfl) (by kernel_rfl) (by kernel_rfl) (fun _ _ _ h => h) (Or.inl ⟨by kernel_rfl, ?_⟩) ?_
                    rotate_left 1
                    · intro w; go_simp
                      try with_reducible rfl
                    refine wpAny_take (i := 36) (v := ?_) rfl (by kernel_rfl) (by kernel_rfl) (by kernel_rfl) (fun _ _ _ h => h) (Or.inl ⟨by kernel_rfl, ?_⟩) ?_
                    rotate_left 1
                    · intro w; go_simp
                      try with_reducible rfl
                    refine wpAny_take (i := 38) (v := ?_) rfl (by kernel_rfl) (by kernel_rfl) (by kernel_rfl) (fun _ _ _ h => h) (Or.inl ⟨by kernel_rfl, ?_⟩) ?_
                    rotate_left 1
                    · intro w; go_simp
                      try with_reducible rfl
                    refine wpAny_ready (rs := [37, 39]) (by kernel_rfl) (by simp) ?_
                    refine AllReady.cons rfl (fun KK hK => ?_) ?_
                    · go_simp
                      refine hK _ _ ?_
                      clear hK KK
                      refine wpAny_ready (rs := [39]) (by kernel_rfl) (by simp) ?_
                      refine AllReady.cons rfl (fun KK hK => ?_) ?_
                      · go_simp
                        refine hK _ _ ?_
                        clear hK KK
                        refine wpAny_ready (rs := [40]) (by kernel_rfl) (by simp) ?_
                        refine AllReady.cons rfl (fun KK hK => ?_) ?_
                        · go_simp
                          refine (same_any _ (.slice a7 V2.length c7) (.slice a8 V2.length c8) V2 V2 (T2.out.grown hgx) (T3.out.grown hgx)).mono ?_
                          rintro e w' ⟨rfl, rfl⟩
                          refine hK _ _ ?_
                          clear hK KK
                          refine wpAny_take (i := 41) (v := ?_) rfl (by kernel_rfl) (by kernel_rfl) (by kernel_rfl) (fun _ _ _ h => h) (Or.inl ⟨by kernel_rfl, ?_⟩) ?_
                          rotate_left 1
                          · intro w; go_simp
                            try with_reducible rfl
                          refine wpAny_take (i := 42) (v := ?_) rfl (by kernel_rfl) (by kernel_rfl) (by kernel_rfl) (fun _ _ _ h => h) (Or.inl ⟨by kernel_rfl, ?_⟩) ?_
                          rotate_left 1
                          · intro w; go_simp
                            try with_reducible rfl
                          refine wpAny_take (i := 43) (v := ?_) rfl (by kernel_rfl) (by kernel_rfl) (by kernel_rfl) (fun _ _ _ h => h) (Or.inl ⟨by kernel_rfl, ?_⟩) ?_
                          rotate_left 1
                          · intro w; go_simp
                            try with_reducible rfl
                          refine wpAny_take (i := 44) (v := ?_) rfl (by kernel_rfl) (by kernel_rfl) (by kernel_rfl) (fun _ _ _ h => h) (Or.inl ⟨by kernel_rfl, ?_⟩) ?_
                          rotate_left 1
                          · intro w; go_simp
                            try with_reducible rfl
                          refine wpAny_take (i := 45) (v := ?_) rfl (by kernel_rfl) (by kernel_rfl) (by kernel_rfl) (fun _ _ _ h => h) (Or.inl ⟨by kernel_rfl, ?_⟩) ?_
                          rotate_left 1
                          · intro w; go_simp
                            try with_reducible rfl
                          refine wpAny_ready (rs := [46]) (by kernel_rfl) (by simp) ?_
                          refine AllReady.cons rfl (fun KK hK => ?_) ?_
                          · go_simp
                            refine (HChk.out _ v5 (T6.out.grown hgx)).mono ?_
                            rintro e w11 ⟨rfl, hg11⟩
                            have hgz := grown_trans hgx hg11
                            refine hK _ _ ?_
                            clear hK KK
                            refine wpAny_take (i := 47) (v := ?_) rfl (by kernel_rfl) (by kernel_rfl) (by kernel_rfl) (fun _ _ _ h => h) (Or.inl ⟨by kernel_rfl, ?_⟩) ?_
                            rotate_left 1
                            · intro w; go_simp
                              try with_reducible rfl
                            refine wpAny_take (i := 48) (v := ?_) rfl (by kernel_rfl) (by kernel_rfl) (by kernel_rfl) (fun _ _ _ h => h) (Or.inl ⟨by kernel_rfl, ?_⟩) ?_
                            rotate_left 1
                            · intro w; go_simp
                              try with_reducible rfl
                            refine wpAny_take (i := 49) (v := ?_) rfl (by kernel_rfl) (by kernel_rfl) (by kernel_rfl) (fun _ _ _ h => h) (Or.inl ⟨by kernel_rfl, ?_⟩) ?_
                            rotate_left 1
                            · intro w; go_simp
                              try with_reducible rfl
                            refine wpAny_done (by kernel_rfl) ?_ _
                            go_wp2
                            go_ret
                            exact ⟨rfl, grown_trans hgW hgz⟩
                          exact AllReady.nil
                        exact AllReady.nil
                      exact AllReady.nil
                    refine AllReady.cons rfl (fun KK hK => ?_) ?_
                    · go_simp
                      refine hK _ _ ?_
                      clear hK KK
                      refine wpAny_ready (rs := [37]) (by kernel_rfl) (by simp) ?_
                      refine AllReady.cons rfl (fun KK hK => ?_) ?_
                      · go_simp
                        refine hK _ _ ?_
                        clear hK KK
                        refine wpAny_ready (rs := [40]) (by kernel_rfl) (by simp) ?_
                        refine AllReady.cons rfl (fun KK hK => ?_) ?_
                        · go_simp
                          refine (same_any _ (.slice a7 V2.length c7) (.slice a8 V2.length c8) V2 V2 (T2.out.grown hgx) (T3.out.grown hgx)).mono ?_
                          rintro e w' ⟨rfl, rfl⟩
                          refine hK _ _ ?_
                          clear hK KK
                          refine wpAny_take (i := 41) (v := ?_) rfl (by kernel_rfl) (by kernel_rfl) (by kernel_rfl) (fun _ _ _ h => h) (Or.inl ⟨by kernel_rfl, ?_⟩) ?_
                          rotate_left 1
                          · intro w; go_simp
                            try with_reducible rfl
                          refine wpAny_take (i := 42) (v := ?_) rfl (by kernel_rfl) (by kernel_rfl) (by kernel_rfl) (fun _ _ _ h => h) (Or.inl ⟨by kernel_rfl, ?_⟩) ?_
                          rotate_left 1
                          · intro w; go_simp
                            try with_reducible rfl
                          refine wpAny_take (i := 43) (v := ?_) rfl (by kernel_rfl) (by kernel_rfl) (by kernel_rfl) (fun _ _ _ h => h) (Or.inl ⟨by kernel_rfl, ?_⟩) ?_
                          rotate_left 1
                          · intro w; go_simp
                            try with_reducible rfl
                          refine wpAny_take (i := 44) (v := ?_) rfl (by kernel_rfl) (by kernel_rfl) (by kernel_rfl) (fun _ _ _ h => h) (Or.inl ⟨by kernel_rfl, ?_⟩) ?_
                          rotate_left 1
                          · intro w; go_simp
                            try with_reducible rfl
                          refine wpAny_take (i := 45) (v := ?_) rfl (by kernel_rfl) (by kernel_rfl) (by kernel_rfl) (fun _ _ _ h => h) (Or.inl ⟨by kernel_rfl, ?_⟩) ?_
                          rotate_left 1
                          · intro w; go_simp
                            try with_reducible rfl
                          refine wpAny_ready (rs := [46]) (by kernel_rfl) (by simp) ?_
                          refine AllReady.cons rfl (fun KK hK => ?_) ?_
                          · go_simp
                            refine (HChk.out _ v5 (T6.out.grown hgx)).mono ?_
                            rintro e w11 ⟨rfl, hg11⟩
                            have hgz := grown_trans hgx hg11
                            refine hK _ _ ?_
                            clear hK KK
                            refine wpAny_take (i := 47) (v := ?_) rfl (by kernel_rfl) (by kernel_rfl) (by kernel_rfl) (fun _ _ _ h => h) (Or.inl ⟨by kernel_rfl, ?_⟩) ?_
                            rotate_left 1
                            · intro w; go_simp
                              try with_reducible rfl
                            refine wpAny_take (i := 48) (v := ?_) rfl (by kernel_rfl) (by kernel_rfl) (by kernel_rfl) (fun _ _ _ h => h) (Or.inl ⟨by kernel_rfl, ?_⟩) ?_
                            rotate_left 1
                            · intro w; go_simp
                              try with_reducible rfl
                            refine wpAny_take (i := 49) (v := ?_) rfl (by kernel_rfl) (by kernel_rfl) (by kernel_rfl) (fun _ _ _ h => h) (Or.inl ⟨by kernel_rfl, ?_⟩) ?_
                            rotate_left 1
                            · intro w; go_simp
                              try with_reducible rfl
                            refine wpAny_done (by kernel_rfl) ?_ _
                            go_wp2
                            go_ret
                            exact ⟨rfl, grown_trans hgW hgz⟩
                          exact AllReady.nil
                        exact AllReady.nil
                      exact AllReady.nil
                    exact AllReady.nil
                  exact AllReady.nil
                exact AllReady.nil
              exact AllReady.nil
            exact AllReady.nil
          exact AllReady.nil
        exact AllReady.nil
      exact AllReady.nil
end Go.Proofs.Ytdpoickggdgddab
