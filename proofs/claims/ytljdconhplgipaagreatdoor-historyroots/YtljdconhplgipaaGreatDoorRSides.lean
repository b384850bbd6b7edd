/-
  The walk of the document's answer to P3.6: sides.
-/
import Derived.Test.YtljdconhplgipaaGreatDoorPart4
import Derived.Test.YtljdconhplgipaaGreatDoorPart2
import Derived.Test.YtljdconhplgipaaGreatDoorPart19
import Derived.Deep.RegionWith
namespace Go.Proofs.YtljdconhplgipaaGreatDoor
open Go.RowKit
set_option maxRecDepth 100000 in
set_option maxHeartbeats 1000000 in
theorem sides_any (w : World) (v : Value) (l : PL) (hv : PairsIs w v l) (hT : Tree l) (h2 : 2 ≤ l.length) :
    Calls Tryz.prog 25 #[v] w fun e w' => ∃ x y, e = .returned (.tuple #[.int .i64 (forkBit l), x, y]) ∧ PairsIs w' x (sideL l (forkBit l).toNat false) ∧ PairsIs w' y (sideL l (forkBit l).toNat true) ∧ w.grownBy w' none := by
  obtain ⟨a, cap, rfl⟩ := hv.shape
  have hroom := hT.room
  have HT : Hid (Tree l) := hT
  have hrange := forkBit_range hT h2
  obtain ⟨B, hB⟩ : ∃ B : Nat, forkBit l = (B : Int) := ⟨(forkBit l).toNat, by omega⟩
  rw [hB, show ((B : Int)).toNat = B from rfl]
  have hB144 : B < 145 := by omega
  have HB : Hid (minTo l l.length = (B : Int)) := hB
  clear hrange hB
  go_enter Tryz.func25, Tryz.ntmps25
  go_wp2_with fail
  obtain ⟨b0, o0, rfl, hat0⟩ := hv.at 0 (by omega)
  have hk0 := (hT.pairs l[0] (List.getElem_mem (by omega))).1
  rw [show l[0] = l.getD 0 ([], []) by simp [show 0 < l.length by omega]] at hk0
  have PO : Hid (∀ w' vi ki, w.grownBy w' none → SliceIs w' vi ki → ki.length ≤ 16 → ∀ v0, SliceIs w' v0 (l.getD 0 ([], [])).1 → Calls Tryz.prog 37 #[v0, vi] w' fun e w'' => e = .returned (.int .i64 (partK (l.getD 0 ([], [])).1 ki)) ∧ w'.grownBy w'' none) := fun w' vi ki _ h1 h2 v0 h0 => partOf_any w' v0 vi _ ki h0 h1 hk0.2 h2
  clear hT
  go_loopw [5, 6] (fun bv i wr => ∃ m : Nat, 1 ≤ m ∧ m ≤ l.length ∧ i = .int .i64 (m : Int) ∧ bv = .int .i64 (minTo l m) ∧ w.grownBy wr none) (fun _ i _ => l.length - (intOf i).toNat)
  case atStart => exact ⟨1, by omega, by omega, rfl, rfl, grown_refl _ _⟩
  case round =>
    obtain ⟨m, hm1, hm, rfl, rfl, hg⟩ := hrel
    by_cases hlt : m < l.length
    · obtain ⟨vk0, vv0, c1, _, s1, _⟩ := hat0.grown hg
      obtain ⟨b, o, e, hat⟩ := hv.at m hlt
      simp only [Option.some.injEq, Addr.mk.injEq] at e
      obtain ⟨rfl, rfl, _⟩ := e
      obtain ⟨vk, vv, d1, _, r1, _⟩ := hat.grown hg
      have hkm := (HT.out.pairs l[m] (List.getElem_mem hlt)).1
      rw [show l[m] = l.getD m ([], []) by simp [hlt]] at hkm
      rw [Nat.zero_mul, Nat.add_zero] at c1
      obtain ⟨ak0, ck0, rfl⟩ := s1.shape
      obtain ⟨ak, ck, rfl⟩ := r1.shape
      have HP : Hid (Calls Tryz.prog 37 #[.slice ak0 (l.getD 0 ([], [])).1.length ck0, .slice ak (l.getD m ([], [])).1.length ck] wr.drew fun e w'' => e = .returned (.int .i64 (partK (l.getD 0 ([], [])).1 (l.getD m ([], [])).1)) ∧ wr.drew.grownBy w'' none) := PO.out wr.drew _ _ (grown_drew hg) r1.drew hkm.2 _ s1.drew
      have HM : Hid (minTo l (m + 1) = if partK (l.getD 0 ([], [])).1 (l.getD m ([], [])).1 < minTo l m then partK (l.getD 0 ([], [])).1 (l.getD m ([], [])).1 else minTo l m) := by
        show _ = _
        obtain ⟨k, rfl⟩ : ∃ k, m = k + 1 := ⟨m - 1, by omega⟩
        rw [minTo]
      generalize (l.getD 0 ([], [])).1.length = n1 at *
      generalize (l.getD m ([], [])).1.length = n2 at *
      generalize partK (l.getD 0 ([], [])).1 (l.getD m ([], [])).1 = N at *
      generalize minTo l m = M at *
      have i1 : (m : Int) < (l.length : Int) := by omega
      clear s1 r1 hat hkm
      go_upto_region 5 with fail
      go_cut [7] (fun s7 wx => s7 = .int .i64 N ∧ w.grownBy wx none)
      case first =>
        go_region_with (go_at_call 37; refine HP.out.mono ?_; rintro e w1 ⟨rfl, hg1⟩)
        all_goals (go_wp2_with fail; go_meet; case rel => exact ⟨rfl, grown_trans (grown_drew hg) hg1⟩)
      case rest =>
        obtain ⟨rfl, hgc⟩ := hcut
        clear hg c1 d1 HP
        by_cases hlt2 : N < M
        · have HM2 : Hid (minTo l (m + 1) = N) := by show _ = _; rw [HM.out, if_pos hlt2]
          clear HM
          go_wp2_with fail
          go_roundw
          case rel =>
            first
              | exact ⟨m + 1, by omega, by omega, by go_num, by rw [HM2.out], hgc⟩
              | ((repeat apply Exists.intro); refine ⟨⟨m + 1, by omega, by omega, ?_, by rw [HM2.out], hgc⟩, rfl⟩; go_num)
          case measure => simp [intOf]; omega
        · have HM2 : Hid (minTo l (m + 1) = M) := by show _ = _; rw [HM.out, if_neg hlt2]
          clear HM
          go_wp2_with fail
          go_roundw
          case rel =>
            first
              | exact ⟨m + 1, by omega, by omega, by go_num, by rw [HM2.out], hgc⟩
              | ((repeat apply Exists.intro); refine ⟨⟨m + 1, by omega, by omega, ?_, by rw [HM2.out], hgc⟩, rfl⟩; go_num)
          case measure => simp [intOf]; omega
    · obtain rfl : m = l.length := by omega
      rw [HB.out]
      have HG0 : Hid (w.grownBy wr none) := hg
      clear hlt PO hat0 hk0
      go_wp2_with fail
      clear hg
      go_loopw [8, 9, 10] (fun lv rv i wr => ∃ m : Nat, m ≤ l.length ∧ i = .int .i64 (m : Int) ∧ OwnP w.heap.size wr lv (sideL (l.take m) B false) ∧ OwnP w.heap.size wr rv (sideL (l.take m) B true) ∧ (∀ k, lv.ownBlock = some k → rv.ownBlock ≠ some k) ∧ w.grownBy wr none) (fun _ _ i _ => l.length - (intOf i).toNat)
      case atStart => exact ⟨0, by omega, rfl, ownP_nil _ _, ownP_nil _ _, (fun k h => by cases h), HG0.out⟩
      case round =>
        obtain ⟨m, hm', rfl, hl, hr, hap, hg⟩ := hrel
        by_cases hlt : m < l.length
        · obtain ⟨b, o, e, hat⟩ := hv.at m hlt
          simp only [Option.some.injEq, Addr.mk.injEq] at e
          obtain ⟨rfl, rfl, _⟩ := e
          obtain ⟨vk, vv, c1, c2, s1, s2⟩ := hat
          have hpm := HT.out.pairs l[m] (List.getElem_mem hlt)
          rw [show l[m] = l.getD m ([], []) by simp [hlt]] at hpm
          have hsf := side_take l B false m hlt
          have hst := side_take l B true m hlt
          have hlen1 := Nat.le_trans (side_len (l.take m) B false) (List.length_take_le m l)
          have hlen2 := Nat.le_trans (side_len (l.take m) B true) (List.length_take_le m l)
          generalize l.getD m ([], []) = P at *
          generalize sideL (l.take m) B false = L at *
          generalize sideL (l.take m) B true = R at *
          have e1 := hg.cell c1 (by simp)
          have e2 := hg.cell c2 (by simp)
          have AB : Hid (Calls Tryz.prog 38 #[vk] wr fun e w' => ∃ v', e = .returned v' ∧ OwnB wr.heap.size w' v' (bitsN P.1 145) ∧ wr.grownBy w' none) := allBits_any wr vk P.1 (s1.grown hg) hpm.1.2
          have SK : Hid (SliceIs w vk P.1) := s1
          have SV : Hid (SliceIs w vv P.2) := s2
          obtain ⟨ak, ck, rfl⟩ := s1.shape
          obtain ⟨av, cv, rfl⟩ := s2.shape
          have i1 : (m : Int) < (l.length : Int) := by omega
          clear s1 s2 c1 c2 hpm
          go_wp2_with fail
          refine AB.out.mono ?_
          rintro e w1 ⟨v1, rfl, ho1, hg1⟩
          obtain ⟨g, bcap, rfl, hcell⟩ := ho1.block (by intro e; have := bitsN_len P.1 145; rw [e] at this; simp at this)
          rw [bitsN_len] at hcell ⊢
          have c0 := hcell B hB144
          rw [bitsN_get _ _ _ hB144] at c0
          have hg1w := grown_trans hg hg1
          have e3 := hg1.cell e1 (by simp)
          have e4 := hg1.cell e2 (by simp)
          have HK1 : Hid (PartIs w.heap.size w1 (.slice ak P.1.length ck) P.1) := SK.out.part hg1w _ (Nat.le_refl _)
          have HV1 : Hid (PartIs w.heap.size w1 (.slice av P.2.length cv) P.2) := SV.out.part hg1w _ (Nat.le_refl _)
          have hl1 := hl.grownNone hg1
          have hr1 := hr.grownNone hg1
          have hsz1 := hg1w.size
          have hll := hl1.lt
          have hrl := hr1.lt
          obtain ⟨la, lc, rfl⟩ := hl1.shape
          obtain ⟨ra, rc, rfl⟩ := hr1.shape
          have HAP : Hid (∀ k, (Value.slice la L.length lc).ownBlock = some k → (Value.slice ra R.length rc).ownBlock ≠ some k) := hap
          have HLL : Hid (∀ k, (Value.slice la L.length lc).ownBlock = some k → w.heap.size ≤ k ∧ k < w1.heap.size) := hll
          have HRL : Hid (∀ k, (Value.slice ra R.length rc).ownBlock = some k → w.heap.size ≤ k ∧ k < w1.heap.size) := hrl
          have i2 : (B : Int) < 145 := by omega
          clear ho1 hcell hl hr e1 e2 AB SK SV hap hll hrl hg1 hg
          cases hb : kbit P.1 B with
          | true =>
            rw [hb] at c0 hsf hst
            rw [if_neg (by simp)] at hsf
            rw [if_pos rfl] at hst
            have HSF : Hid (sideL (l.take (m + 1)) B false = L) := hsf
            have HST : Hid (sideL (l.take (m + 1)) B true = R ++ [P]) := hst
            clear hsf hst
            go_wp2_with (at_builtin; refine wpList_append_pair_at (w0 := w1) rfl _ _ rfl w.heap.size _ R rfl hr1 _ _ P HK1.out HV1.out rfl w1.heap.size rfl rfl (by omega) hsz1 ?_; intro v2 w2 ho2 hg2 hb2)
            have hgw2 := grown_ownP (grown_alloc hg1w _) (hr1.alloc _) hg2
            have hoth := OwnP.other (hl1.alloc (.cells #[.slice ak P.1.length ck, .slice av P.2.length cv] 56)) (hr1.alloc _) hg2 HAP.out
            have HAP2 : Hid (∀ k, (Value.slice la L.length lc).ownBlock = some k → v2.ownBlock ≠ some k) := fun k h1 h2 => by
              rcases hb2 with hb2 | hb2
              · rw [hb2] at h2; exact HAP.out k h1 h2
              · rw [hb2] at h2
                have := (HLL.out k h1).2
                simp at h2
                omega
            clear hb2
            go_roundw
            case rel =>
              first
                | exact ⟨m + 1, by omega, by go_num, by rw [HSF.out]; exact hoth, by rw [HST.out]; exact ho2, HAP2.out, hgw2⟩
                | ((repeat apply Exists.intro); refine ⟨⟨m + 1, by omega, ?_, by rw [HSF.out]; exact hoth, by rw [HST.out]; exact ho2, HAP2.out, hgw2⟩, rfl⟩; go_num)
            case measure => simp [intOf]; omega
          | false =>
            rw [hb] at c0 hsf hst
            rw [if_pos rfl] at hsf
            rw [if_neg (by simp)] at hst
            have HSF : Hid (sideL (l.take (m + 1)) B false = L ++ [P]) := hsf
            have HST : Hid (sideL (l.take (m + 1)) B true = R) := hst
            clear hsf hst
            go_wp2_with (at_builtin; refine wpList_append_pair_at (w0 := w1) rfl _ _ rfl w.heap.size _ L rfl hl1 _ _ P HK1.out HV1.out rfl w1.heap.size rfl rfl (by omega) hsz1 ?_; intro v2 w2 ho2 hg2 hb2)
            have hgw2 := grown_ownP (grown_alloc hg1w _) (hl1.alloc _) hg2
            have hoth := OwnP.other (hr1.alloc (.cells #[.slice ak P.1.length ck, .slice av P.2.length cv] 56)) (hl1.alloc _) hg2 (fun k h1 h2 => HAP.out k h2 h1)
            have HAP2 : Hid (∀ k, v2.ownBlock = some k → (Value.slice ra R.length rc).ownBlock ≠ some k) := fun k h2 h1 => by
              rcases hb2 with hb2 | hb2
              · rw [hb2] at h2; exact HAP.out k h2 h1
              · rw [hb2] at h2
                have := (HRL.out k h1).2
                simp at h2
                omega
            clear hb2
            go_roundw
            case rel =>
              first
                | exact ⟨m + 1, by omega, by go_num, by rw [HSF.out]; exact ho2, by rw [HST.out]; exact hoth, HAP2.out, hgw2⟩
                | ((repeat apply Exists.intro); refine ⟨⟨m + 1, by omega, ?_, by rw [HSF.out]; exact ho2, by rw [HST.out]; exact hoth, HAP2.out, hgw2⟩, rfl⟩; go_num)
            case measure => simp [intOf]; omega
        · obtain rfl : m = l.length := by omega
          rw [List.take_length] at hl hr
          obtain ⟨la, lc, rfl⟩ := hl.shape
          obtain ⟨ra, rc, rfl⟩ := hr.shape
          clear hap
          go_wp2
          go_ret3
          exact ⟨_, _, rfl, hl.list, hr.list, hg⟩
end Go.Proofs.YtljdconhplgipaaGreatDoor
