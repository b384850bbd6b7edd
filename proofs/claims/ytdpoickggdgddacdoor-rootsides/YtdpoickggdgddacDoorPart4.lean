/-
  Texts of this proof, joined: KeyO, KMake, KMakeS, KMakeP, Sides, ForkF, CheckC, CheckP, BitC, Group, BitP, PartC, Len16, PartP.
-/
import Derived.Test.YtdpoickggdgddacDoorPart3
import Derived.Test.YtdpoickggdgddacDoorPart2
import Derived.Deep.RegionWith
import Derived.Handy
import Derived.Test.YtdpoickggdgddacDoorPart1
import Derived.Lib.Slices
import Derived.Lib.Small
import Derived.Lib.Walk
import Derived.Lib.BitFns
/-
  The walk of canopykeep.key: what comes is the call's own.
-/
namespace Go.Proofs.YtdpoickggdgddacDoor
open Go.RowKit
theorem keyO_any (w : World) (v : Value) (bs : List UInt8) (hv : SliceIs w v bs) (hl : bs.length ≤ maxLen) :
    Calls Tryd.prog 5 #[v] w fun e w' => ∃ v', e = .returned v' ∧ Own w.heap.size w' v' (keyF bs) ∧ w.grownBy w' none := by
  obtain ⟨a, cap, rfl, hc, hrest⟩ := hv
  have hv : SliceIs w (.slice a bs.length cap) bs := ⟨a, cap, rfl, hc, hrest⟩
  clear hrest
  by_cases h0 : bs.length = 0
  · rw [keyF, if_pos h0]
    have i0 : (bs.length : Int) = 0 := by omega
    go_enter Tryd.func5, Tryd.ntmps5
    go_wp2
    go_ret
    exact ⟨_, rfl, own_new w.heap.size w [0] (Nat.le_refl _) (by unfold maxLen; simp), World.grownBy_alloc _ _ _⟩
  · rw [keyF, if_neg h0]
    have i0 : ¬ (bs.length : Int) = 0 := by omega
    go_enter Tryd.func5, Tryd.ntmps5
    go_wp2_with fail
    refine (some_any _ _ _ 16 (by omega) hv hl).mono ?_
    rintro e w1 ⟨v1, rfl, ho1, hg1⟩
    go_wp2
    go_ret
    exact ⟨v1, rfl, ho1, hg1⟩
end Go.Proofs.YtdpoickggdgddacDoor

/-
  The walk of canopykeep.Pairs: a tree out of raw items.
-/
namespace Go.Proofs.YtdpoickggdgddacDoor
open Go.RowKit
set_option maxRecDepth 100000 in
set_option maxHeartbeats 2000000 in
theorem kpairs_any (w : World) (v : Value) (l : PL) (n : Nat) (hv : PairsIs w v l) (hl : Fits l) (hn : n ≤ 60) :
    Calls Tryd.prog 11 #[v, .int .i64 (n : Int)] w fun e w' => ∃ v', e = .returned v' ∧ OwnP w.heap.size w' v' (mkT (l.take n)) ∧ w.grownBy w' none := by
  obtain ⟨a, cap, rfl⟩ := hv.shape
  go_enter Tryd.func11, Tryd.ntmps11
  go_wp2_with fail
  go_loopw [5, 6] (fun cv i wr => ∃ (m : Nat) (T : PL), m ≤ l.length ∧ m ≤ n ∧ i = .int .i64 (m : Int) ∧ mkT (l.take m) = T ∧ T.length ≤ m ∧ OwnP w.heap.size wr cv T ∧ w.grownBy wr none) (fun _ i _ => l.length - (intOf i).toNat)
  case atStart => exact ⟨0, [], by omega, by omega, rfl, rfl, by simp, ownP_nil _ _, grown_refl _ _⟩
  case round =>
    obtain ⟨m, T, hm, hmn, rfl, hT, hTl, hown, hg⟩ := hrel
    by_cases hlt : m < l.length ∧ m < n
    · obtain ⟨hlt1, hlt2⟩ := hlt
      obtain ⟨b, o, rfl, hat⟩ := hv.at m hlt1
      obtain ⟨vk, vv, c1, c2, s1, s2⟩ := hat.grown hg
      have hT2 := mkT_take l m hlt1
      obtain ⟨hl1, hl2⟩ := hl.each m hlt1
      generalize l.getD m ([], []) = It at *
      rw [hT] at hT2
      have HT2 : Hid (mkT (l.take (m + 1)) = putL T (itemP It)) := hT2
      have KY : Hid (∀ w', wr.grownBy w' none → Calls Tryd.prog 5 #[vk] w' fun e w'' => ∃ v', e = .returned v' ∧ Own w'.heap.size w'' v' (itemP It).1 ∧ w'.grownBy w'' none) := fun w' hg => keyO_any w' vk It.1 (s1.grown hg) (by unfold maxLen; omega)
      have SO : Hid (∀ w', wr.grownBy w' none → Calls Tryd.prog 6 #[vv, .int .i64 32] w' fun e w'' => ∃ v', e = .returned v' ∧ Own w'.heap.size w'' v' (itemP It).2 ∧ w'.grownBy w'' none) := fun w' hg => some_any w' vv It.2 32 (by omega) (s2.grown hg) (by unfold maxLen; omega)
      have hP := itemP_ok It
      generalize itemP It = P at *
      obtain ⟨ak, ck, rfl⟩ := s1.shape
      obtain ⟨av, cv, rfl⟩ := s2.shape
      obtain ⟨ca, ccap, rfl⟩ := hown.shape
      clear hat s1 s2 hT2 hT
      have i1 : (m : Int) < (l.length : Int) := by omega
      have i2 : (m : Int) < (n : Int) := by omega
      go_upto_region 5 with fail
      go_cut [7] (fun s7 wx => ∃ (pb : Nat) (xa : Option Addr) (xc : Nat) (ya : Option Addr) (yc : Nat), s7 = .pointer (some ⟨pb, 0, none⟩) ∧ wx.heap[pb]? = some (.cells #[.slice xa P.1.length xc, .slice ya P.2.length yc] 27) ∧ PartIs w.heap.size wx (.slice xa P.1.length xc) P.1 ∧ PartIs w.heap.size wx (.slice ya P.2.length yc) P.2 ∧ wr.grownBy wx none)
      case first =>
        have hgd := grown_drew (grown_refl wr none)
        have hga0 : wr.grownBy (wr.alloc (.cells #[.slice none 0 0, .slice none 0 0] 27)) none := grown_alloc (grown_refl wr none) _
        have hga : wr.grownBy (wr.alloc (.cells #[.slice none 0 0, .slice none 0 0] 27)).drew none := grown_drew hga0
        have d1 := hga0.cell c1 (by simp)
        have d2 := hga0.cell c2 (by simp)
        go_region_with (first
          | (go_at_call 5; refine (KY.out _ ?_).mono ?_; first | exact hgd | exact hga
             rintro e w1 ⟨v1, rfl, ok, hg1⟩; obtain ⟨xa, xc, rfl⟩ := ok.shape
             have hgk : wr.grownBy w1 none := by first | exact grown_trans hgd hg1 | exact grown_trans hga hg1
             have hc2 := hgk.cell c2 (by simp)
             have hc3 := (grown_alloc (grown_refl w1 none) (.cells #[.slice none 0 0, .slice none 0 0] 27)).cell hc2 (by simp))
          | (go_at_call 6; refine (SO.out _ ?_).mono ?_; first | exact hgk | exact grown_alloc hgk _
             rintro e w2 ⟨v2, rfl, ov, hg2⟩; obtain ⟨ya, yc, rfl⟩ := ov.shape
             first
               | (refine pair_room_elim (b := wr.heap.size) (grown_trans hg1 hg2) (heap_alloc_new wr (.cells #[.slice none 0 0, .slice none 0 0] 27)) ?_; intro hpb0 cA cB fA fB; have HPB : Hid (w2.heap[wr.heap.size]? = some (.cells #[.slice none 0 0, .slice none 0 0] 27)) := hpb0; clear hpb0)
               | (refine pair_room_elim (b := w1.heap.size) hg2 (heap_alloc_new w1 (.cells #[.slice none 0 0, .slice none 0 0] 27)) ?_; intro hpb0 cA cB fA fB; have HPB : Hid (w2.heap[w1.heap.size]? = some (.cells #[.slice none 0 0, .slice none 0 0] 27)) := hpb0; clear hpb0)
               | skip))
        all_goals (go_wp2_with fail; go_meet; case rel =>
          have hs0 := hg.size
          have hs1 := hgk.size
          first
            | exact ⟨w2.heap.size, xa, xc, ya, yc, rfl, heap_alloc_new w2 _, ((ok.grownNone hg2).alloc _).part, (ov.alloc _).part, grown_alloc (grown_trans hgk hg2) _⟩
            | exact ⟨wr.heap.size, xa, xc, ya, yc, rfl, (pair_stored (base := w.heap.size) HPB.out (by omega) _ _).1, (pair_stored (base := w.heap.size) HPB.out (by omega) _ _).2.1 _ _ (ok.grownNone hg2).part, (pair_stored (base := w.heap.size) HPB.out (by omega) _ _).2.1 _ _ ov.part, (pair_stored (base := w.heap.size) HPB.out (by omega) _ _).2.2 wr (Nat.le_refl _) (grown_trans hgk hg2)⟩
            | exact ⟨w1.heap.size, xa, xc, ya, yc, rfl, (pair_stored (base := w.heap.size) HPB.out (by omega) _ _).1, (pair_stored (base := w.heap.size) HPB.out (by omega) _ _).2.1 _ _ ((ok.alloc _).grownNone hg2).part, (pair_stored (base := w.heap.size) HPB.out (by omega) _ _).2.1 _ _ ov.part, (pair_stored (base := w.heap.size) HPB.out (by omega) _ _).2.2 wr hs1 (grown_trans (grown_alloc hgk _) hg2)⟩)
      case rest =>
        obtain ⟨pb, xa, xc, ya, yc, rfl, hpb, hpk, hpv, hgx⟩ := hcut
        have hgw := grown_trans hg hgx
        have hownx := OwnP.grownNone hown hgx
        obtain ⟨c3, c4, _, _⟩ := pair_room (grown_refl wc none) hpb
        have CB : Hid (∀ w', wc.grownBy w' none → (convert 22 9 (.slice xa P.1.length xc)).run Tryd.prog w' = .ok (.string (textOf P.1)) w') := fun w' hg => conv_bytes w' _ _ (hpk.slice.grown hg)
        clear hown hg hgx c1 c2 KY SO
        have HPB : Hid (wc.heap[pb]? = some (.cells #[.slice xa P.1.length xc, .slice ya P.2.length yc] 27)) := hpb
        have HPK : Hid (PartIs w.heap.size wc (.slice xa P.1.length xc) P.1) := hpk
        have HPV : Hid (PartIs w.heap.size wc (.slice ya P.2.length yc) P.2) := hpv
        have HOX : Hid (OwnP w.heap.size wc (.slice ca T.length ccap) T) := hownx
        clear hpb hpk hpv hownx
        go_wp2_with fail
        go_loopw [8] (fun s wr => ∃ k : Nat, k ≤ T.length ∧ s = .int .i64 (k : Int) ∧ wc.grownBy wr none ∧ ∀ j, j < k → klt (T.getD j ([], [])).1 P.1 = true) (fun s _ => T.length - (intOf s).toNat)
        case atStart => exact ⟨0, by omega, rfl, grown_refl _ _, fun j hj => by omega⟩
        case round =>
          obtain ⟨k, hk, rfl, hgr, hbef⟩ := hrel
          have HB : Hid (∀ j, j < k → klt (T.getD j ([], [])).1 P.1 = true) := hbef
          have c5 := hgr.cell c3 (by simp)
          clear hbef
          obtain ⟨z, hz⟩ : ∃ z : Bool, (decide (k < T.length) && klt (T.getD k ([], [])).1 P.1) = z := ⟨_, rfl⟩
          have HZ : Hid ((decide (k < T.length) && klt (T.getD k ([], [])).1 P.1) = z) := hz
          go_upto_region 7 with fail
          go_cut [49] (fun s49 wx => s49 = .bool z ∧ wc.grownBy wx none)
          case first =>
            by_cases hkl : k < T.length
            · have t3 : (k : Int) < (T.length : Int) := by omega
              obtain ⟨g, o2, rfl, hat⟩ := (HOX.out.list.grown hgr).at k hkl
              obtain ⟨qk, qv, e1, e2, r1, r2⟩ := hat
              have cv1 := conv_bytes wr.drew _ _ ((HPK.out.slice.grown hgr).drew)
              have cv2 := conv_bytes wr.drew _ _ r1.drew
              obtain ⟨qa, qc, rfl⟩ := r1.shape
              clear r1 r2 e2
              generalize (T.getD k ([], [])).1 = q at *
              have hkt : Op.bytesLess (textOf q).toList (textOf P.1).toList = z := by rw [textOf_list, textOf_list, ← hz, decide_eq_true hkl]; rfl
              clear hz
              go_region
              all_goals (go_wp2_with fail; go_meet; case rel => exact ⟨rfl, grown_drew hgr⟩)
            · have t3 : ¬ (k : Int) < (T.length : Int) := by omega
              have hz' : z = false := by rw [← hz, decide_eq_false hkl]; rfl
              subst hz'
              clear hz
              go_region
              all_goals (go_wp2_with fail; go_meet; case rel => exact ⟨rfl, grown_drew hgr⟩)
          case rest =>
            clear hgr c5
            obtain ⟨rfl, hgr⟩ := hcut
            clear hz
            cases z with
            | true =>
              have hZ := HZ.out
              simp only [Bool.and_eq_true, decide_eq_true_eq] at hZ
              obtain ⟨hkl, hkt⟩ := hZ
              have HKT : Hid (klt (T.getD k ([], [])).1 P.1 = true) := hkt
              clear hkt
              go_wp2_with fail
              go_roundw
              case rel =>
                have hs : ∀ j, j < k + 1 → klt (T.getD j ([], [])).1 P.1 = true := fun j hj => by
                  by_cases hjk : j = k
                  · subst hjk; exact HKT.out
                  · exact HB.out j (by omega)
                first
                  | exact ⟨k + 1, by omega, by go_num, hgr, hs⟩
                  | ((repeat apply Exists.intro); refine ⟨⟨k + 1, by omega, ?_, hgr, hs⟩, rfl⟩; go_num)
              case measure => simp [intOf]; omega
            | false =>
              have HNX : Hid (k < T.length → klt (T.getD k ([], [])).1 P.1 = false) := fun h => by
                have := HZ.out
                rw [decide_eq_true h] at this
                simpa using this
              have HPUT : Hid (putL T P = if k < T.length ∧ (T.getD k ([], [])).1 = P.1 then T.set k P else T.take k ++ ([P] ++ T.drop k)) := put_pos T P k hk HB.out HNX.out
              have c5 := hgr.cell c3 (by simp)
              have c6 := hgr.cell c4 (by simp)
              have HPK2 : Hid (PartIs w.heap.size wc (.slice xa P.1.length xc) P.1) := HPK.out.kept hgr (.inl rfl)
              have HPV2 : Hid (PartIs w.heap.size wc (.slice ya P.2.length yc) P.2) := HPV.out.kept hgr (.inl rfl)
              have HOX2 : Hid (OwnP w.heap.size wc (.slice ca T.length ccap) T) := HOX.out.grownNone hgr
              have hgc := grown_trans hgw hgr
              obtain ⟨y, hy⟩ : ∃ y : Bool, (decide (k < T.length) && decide ((T.getD k ([], [])).1 = P.1)) = y := ⟨_, rfl⟩
              have HY : Hid ((decide (k < T.length) && decide ((T.getD k ([], [])).1 = P.1)) = y) := hy
              clear HPK HPV HOX hgr hgw c3 c4 CB HPB HZ HNX
              obtain ⟨wk, rfl⟩ : ∃ wk : World, wk = wc := ⟨_, rfl⟩
              go_upto_region 9 with fail
              go_cut [65] (fun s65 wx => s65 = .bool y ∧ ∃ d, wx = wk.drewN d)
              case first =>
                by_cases hkl : k < T.length
                · have t3 : (k : Int) < (T.length : Int) := by omega
                  obtain ⟨g, o2, rfl, hat⟩ := HOX2.out.list.at k hkl
                  obtain ⟨qk, qv, e1, e2, r1, r2⟩ := hat
                  obtain ⟨qa, qc, rfl⟩ := r1.shape
                  have R1 : Hid (SliceIs wk (.slice qa (T.getD k ([], [])).1.length qc) (T.getD k ([], [])).1) := r1
                  have hy' : y = decide ((T.getD k ([], [])).1 = P.1) := by rw [← hy, decide_eq_true hkl]; rfl
                  subst hy'
                  clear r1 r2 e2 hy HY HPUT
                  generalize (T.getD k ([], [])).1 = q at *
                  go_quiet (first | (go_at_call 9; exact Calls.quiet_of_same (same_any _ _ _ _ _ (R1.out.drewN _) (HPK2.out.slice.drewN _))))
                  go_wp2_with fail
                  go_meet
                  case rel => exact ⟨rfl, nq, rfl⟩
                · have t3 : ¬ (k : Int) < (T.length : Int) := by omega
                  have hy' : y = false := by rw [← hy, decide_eq_false hkl]; rfl
                  subst hy'
                  clear hy
                  go_quiet (fail)
                  go_wp2_with fail
                  go_meet
                  case rel => exact ⟨rfl, nq, rfl⟩
              case rest =>
                obtain ⟨rfl, d, rfl⟩ := hcut
                clear hy
                have hgd := grown_drewN (grown_refl wk none) d
                have c7 := hgd.cell c5 (by simp)
                have c8 := hgd.cell c6 (by simp)
                have HPK3 : Hid (PartIs w.heap.size (wk.drewN d) (.slice xa P.1.length xc) P.1) := HPK2.out.kept hgd (.inl rfl)
                have HPV3 : Hid (PartIs w.heap.size (wk.drewN d) (.slice ya P.2.length yc) P.2) := HPV2.out.kept hgd (.inl rfl)
                have HOX3 : Hid (OwnP w.heap.size (wk.drewN d) (.slice ca T.length ccap) T) := HOX2.out.grownNone hgd
                have hgcd := grown_trans hgc hgd
                clear HPK2 HPV2 HOX2 hgc c5 c6 hgd
                generalize wk.drewN d = wx at *
                cases y with
                | true =>
                  have hY := HY.out
                  simp only [Bool.and_eq_true, decide_eq_true_eq] at hY
                  obtain ⟨hkl, hke⟩ := hY
                  have HN : Hid (mkT (l.take (m + 1)) = T.set k P) := by
                    show _ = _
                    rw [HT2.out, HPUT.out, if_pos ⟨hkl, hke⟩]
                  have hox := HOX3.out
                  rcases hox.cases with ⟨e, e0⟩ | ⟨g, cap', e, hbg, hglt, hcl, hcm, hfz⟩
                  · rw [e0] at hkl; simp at hkl
                  simp only [Value.slice.injEq] at e
                  obtain ⟨rfl, _, rfl⟩ := e
                  obtain ⟨g', o', e, hat⟩ := hox.list.at k hkl
                  simp only [Option.some.injEq, Addr.mk.injEq] at e
                  obtain ⟨rfl, rfl, _⟩ := e
                  obtain ⟨qk, qv, e1, e2, _, _⟩ := hat
                  rw [Nat.zero_add] at e1 e2
                  have fz1 := hfz (k * 2) (by omega)
                  have fz2 := hfz (k * 2 + 1) (by omega)
                  have t3 : (k : Int) < (T.length : Int) := by omega
                  have HSET : Hid (OwnP w.heap.size ((wx.setCell ⟨g, k * 2, none⟩ (.slice xa P.1.length xc)).setCell ⟨g, k * 2 + 1, none⟩ (.slice ya P.2.length yc)) (.slice (some ⟨g, 0, none⟩) T.length ccap) (T.set k P)) := hox.set k hkl _ _ P HPK3.out HPV3.out
                  clear hox hfz hke
                  go_wp2_with fail
                  go_roundw
                  case rel =>
                    first
                      | exact ⟨m + 1, T.set k P, by omega, by omega, by go_num, HN.out, by simp; omega, by simpa using HSET.out, grown_setNew (grown_setNew hgcd _ hbg _ _) _ hbg _ _⟩
                      | ((repeat apply Exists.intro); refine ⟨⟨m + 1, T.set k P, by omega, by omega, ?_, HN.out, by simp; omega, by simpa using HSET.out, grown_setNew (grown_setNew hgcd _ hbg _ _) _ hbg _ _⟩, rfl⟩; go_num)
                  case measure => simp [intOf]; omega
                | false =>
                  have HN : Hid (mkT (l.take (m + 1)) = T.take k ++ ([P] ++ T.drop k)) := by
                    show _ = _
                    rw [HT2.out, HPUT.out, if_neg]
                    intro h
                    have := HY.out
                    rw [decide_eq_true h.1, decide_eq_true h.2] at this
                    simp at this
                  have hszx := hgcd.size
                  have hka : (T.take k).length = k := by simp; omega
                  have S1 : Hid (PartsIs w.heap.size wx (.slice ca k ccap) (T.take k)) := HOX3.out.takes k hk
                  have hox := HOX3.out
                  rcases hox.cases with ⟨e, e0⟩ | ⟨g, cap', e, hbg, hglt, hcl, hcm, hfz⟩
                  · simp only [Value.slice.injEq] at e
                    obtain ⟨rfl, hT0, rfl⟩ := e
                    subst e0
                    obtain rfl : k = 0 := by simpa using hk
                    clear hox
                    have HN2 : Hid (mkT (l.take (m + 1)) = [P]) := by show _ = _; rw [HN.out]; rfl
                    go_upto_region 13 with (at_builtin; refine wpList_append_plistQ rfl _ _ rfl wx.heap.size w.heap.size hszx (.slice none 0 0) [] rfl (ownQ_nil _ _ _) none 0 0 [] rfl S1.out (by simp) (Nat.le_refl _) ?_; intro v1 w1 ho1 hg1)
                    rw [List.nil_append] at ho1
                    have hga : wx.grownBy w1 none := hg1
                    have c9 := hga.cell c7 (by simp)
                    have c10 := hga.cell c8 (by simp)
                    have HK1 : Hid (PartIs w.heap.size w1 (.slice xa P.1.length xc) P.1) := HPK3.out.kept hga (.inl rfl)
                    have HV1 : Hid (PartIs w.heap.size w1 (.slice ya P.2.length yc) P.2) := HPV3.out.kept hga (.inl rfl)
                    have hsz1 := hga.size
                    obtain ⟨a1, cap1, rfl⟩ := ho1.shape
                    go_upto_region 14 with (at_builtin; refine wpList_append_pairQ (w0 := w1) rfl _ _ rfl wx.heap.size w.heap.size hszx _ [] rfl ho1 _ _ P HK1.out HV1.out rfl w1.heap.size rfl rfl (by simp; try omega) hsz1 ?_; intro v2 w2 ho2 hg2)
                    have hgb : wx.grownBy w2 none := grown_ownQ (grown_alloc hga _) (ho1.alloc _) (Nat.le_refl _) hg2
                    have hsz2 := hgb.size
                    obtain ⟨a2, cap2, rfl⟩ := ho2.shape
                    clear c7 c8 c9 c10 ho1 hg1 hg2
                    have S3 : Hid (PartsIs w.heap.size w2 (.slice none 0 0) []) := (OwnP.takes (ownP_nil w.heap.size w2) 0 (by simp))
                    go_wp2_with (at_builtin; refine wpList_append_plistQ rfl _ _ rfl wx.heap.size w.heap.size hszx _ ([] ++ [P]) rfl ho2 none 0 0 [] rfl S3.out (by simp) hsz2 ?_; intro v3 w3 ho3 hg3)
                    have hgw3 : w.grownBy w3 none := grown_ownQ (grown_trans hgcd hgb) ho2 hszx hg3
                    rw [List.append_nil, List.nil_append] at ho3
                    go_roundw
                    case rel =>
                      first
                        | exact ⟨m + 1, [P], by omega, by omega, by go_num, HN2.out, by simp, ho3.p hszx, hgw3⟩
                        | ((repeat apply Exists.intro); refine ⟨⟨m + 1, [P], by omega, by omega, ?_, HN2.out, by simp, ho3.p hszx, hgw3⟩, rfl⟩; go_num)
                    case measure => simp [intOf]; omega
                  · simp only [Value.slice.injEq] at e
                    obtain ⟨rfl, _, rfl⟩ := e
                    clear hox hfz
                    have i9 : (k : Int) ≤ (ccap : Int) := by omega
                    have i8 : (k : Int) ≤ (T.length : Int) := by omega
                    go_upto_region 13 with (at_builtin; refine wpList_append_plistQ rfl _ _ rfl wx.heap.size w.heap.size hszx (.slice none 0 0) [] rfl (ownQ_nil _ _ _) (some ⟨g, 0, none⟩) k ccap (T.take k) rfl S1.out (by simp; omega) (Nat.le_refl _) ?_; intro v1 w1 ho1 hg1)
                    rw [List.nil_append] at ho1
                    have hga : wx.grownBy w1 none := hg1
                    have c9 := hga.cell c7 (by simp)
                    have c10 := hga.cell c8 (by simp)
                    have HK1 : Hid (PartIs w.heap.size w1 (.slice xa P.1.length xc) P.1) := HPK3.out.kept hga (.inl rfl)
                    have HV1 : Hid (PartIs w.heap.size w1 (.slice ya P.2.length yc) P.2) := HPV3.out.kept hga (.inl rfl)
                    have hsz1 := hga.size
                    obtain ⟨a1, cap1, rfl⟩ := ho1.shape
                    go_upto_region 14 with (at_builtin; refine wpList_append_pairQ (w0 := w1) rfl _ _ rfl wx.heap.size w.heap.size hszx _ (T.take k) rfl ho1 _ _ P HK1.out HV1.out rfl w1.heap.size rfl rfl (by simp; try omega) hsz1 ?_; intro v2 w2 ho2 hg2)
                    have hgb : wx.grownBy w2 none := grown_ownQ (grown_alloc hga _) (ho1.alloc _) (Nat.le_refl _) hg2
                    have hsz2 := hgb.size
                    obtain ⟨a2, cap2, rfl⟩ := ho2.shape
                    clear c7 c8 c9 c10 ho1 hg1 hg2
                    have hox2 := HOX3.out.grownNone hgb
                    have HO2 : Hid (OwnP w.heap.size w2 (.slice (some ⟨g, 0, none⟩) T.length ccap) T) := hox2
                    clear hox2
                    by_cases hck : k < ccap
                    · have S3 : Hid (PartsIs w.heap.size w2 (.slice (some ⟨g, k * 2, none⟩) (T.length - k) (ccap - k)) (T.drop k)) := HO2.out.drops k hk (k * 2) (ccap - k) rfl
                      have hck2 : ¬ ccap - k = 0 := by omega
                      have hck3 : ¬ ccap ≤ k := by omega
                      have hck4 : ¬ (ccap : Int) ≤ (k : Int) := by omega
                      clear HOX3 HO2 S1
                      go_wp2_with (at_builtin; refine wpList_append_plistQ rfl _ _ rfl wx.heap.size w.heap.size hszx _ (T.take k ++ [P]) rfl ho2 (some ⟨g, k * 2, none⟩) (T.length - k) (ccap - k) (T.drop k) rfl S3.out (by simp; omega) hsz2 ?_; intro v3 w3 ho3 hg3)
                      have hgw3 : w.grownBy w3 none := grown_ownQ (grown_trans hgcd hgb) ho2 hszx hg3
                      rw [List.append_assoc] at ho3
                      go_roundw
                      case rel =>
                        first
                          | exact ⟨m + 1, T.take k ++ ([P] ++ T.drop k), by omega, by omega, by go_num, HN.out, by simp; omega, ho3.p hszx, hgw3⟩
                          | ((repeat apply Exists.intro); refine ⟨⟨m + 1, T.take k ++ ([P] ++ T.drop k), by omega, by omega, ?_, HN.out, by simp; omega, ho3.p hszx, hgw3⟩, rfl⟩; go_num)
                      case measure => simp [intOf]; omega
                    · have hck1 : ccap = k := by omega
                      have hd : T.drop k = [] := List.drop_eq_nil_of_le (by omega)
                      have S3 : Hid (∀ n c, n = T.length - k → PartsIs w.heap.size w2 (.slice (some ⟨g, 0, none⟩) n c) (T.drop k)) := fun n c hn => ⟨[], some ⟨g, 0, none⟩, c, by rw [hn]; simp, by rw [hd]; rfl, by rw [hd]; intro i hi; simp at hi, .inr ⟨_, rfl, by simp [flat]⟩⟩
                      have hck2 : ccap - k = 0 := by omega
                      clear HOX3 HO2 S1 hd
                      go_wp2_with (at_builtin; refine wpList_append_plistQ rfl _ _ rfl wx.heap.size w.heap.size hszx _ (T.take k ++ [P]) rfl ho2 (some ⟨g, 0, none⟩) _ _ (T.drop k) rfl (S3.out _ _ (by omega)) (by simp; omega) hsz2 ?_; intro v3 w3 ho3 hg3)
                      have hgw3 : w.grownBy w3 none := grown_ownQ (grown_trans hgcd hgb) ho2 hszx hg3
                      rw [List.append_assoc] at ho3
                      go_roundw
                      case rel =>
                        first
                          | exact ⟨m + 1, T.take k ++ ([P] ++ T.drop k), by omega, by omega, by go_num, HN.out, by simp; omega, ho3.p hszx, hgw3⟩
                          | ((repeat apply Exists.intro); refine ⟨⟨m + 1, T.take k ++ ([P] ++ T.drop k), by omega, by omega, ?_, HN.out, by simp; omega, ho3.p hszx, hgw3⟩, rfl⟩; go_num)
                      case measure => simp [intOf]; omega
    · have HE : Hid (mkT (l.take n) = T) := by
        show _ = _
        rw [← hT]
        by_cases h : m < l.length
        · have : m = n := by omega
          rw [this]
        · have : m = l.length := by omega
          rw [this, List.take_length, List.take_of_length_le (by omega)]
      obtain ⟨ca, ccap, rfl⟩ := hown.shape
      by_cases h : m < l.length
      · have t1 : (m : Int) < (l.length : Int) := by omega
        have t2 : ¬ (m : Int) < (n : Int) := by omega
        go_wp2
        go_ret
        exact ⟨_, rfl, by rw [HE.out]; exact hown, hg⟩
      · have t1 : ¬ (m : Int) < (l.length : Int) := by omega
        go_wp2
        go_ret
        exact ⟨_, rfl, by rw [HE.out]; exact hown, hg⟩
end Go.Proofs.YtdpoickggdgddacDoor

/-
  What canopykeep.Pairs keeps.
-/
namespace Go.Proofs.YtdpoickggdgddacDoor
open Go.RowKit
def KMakeOK : Prop := ∀ (w : World) (v : Value) (l : PL) (n : Nat), PairsIs w v l → Fits l → n ≤ 60 →
    Calls Tryd.prog 11 #[v, .int .i64 (n : Int)] w fun e w' => ∃ v', e = .returned v' ∧ OwnP w.heap.size w' v' (mkT (l.take n)) ∧ w.grownBy w' none
end Go.Proofs.YtdpoickggdgddacDoor

/-
  canopykeep.Pairs makes a tree of items.
-/
namespace Go.Proofs.YtdpoickggdgddacDoor
theorem kmake_ok : KMakeOK := kpairs_any
end Go.Proofs.YtdpoickggdgddacDoor

/-
  The bit at which pairs part, and their two sides. No program is named.
-/
namespace Go.Proofs.YtdpoickggdgddacDoor
/-- The least bit at which the first one differs from those ahead of a place. -/
def minTo (l : PL) : Nat → Int
  | 0 => 999
  | 1 => 999
  | m + 2 => if partK (l.getD 0 ([], [])).1 (l.getD (m + 1) ([], [])).1 < minTo l (m + 1) then partK (l.getD 0 ([], [])).1 (l.getD (m + 1) ([], [])).1 else minTo l (m + 1)
def forkBit (l : PL) : Int := minTo l l.length
/-- Those of a side. -/
def sideL (l : PL) (b : Nat) (x : Bool) : PL := l.filter fun q => kbit q.1 b == x
theorem side_take (l : PL) (b : Nat) (x : Bool) (m : Nat) (h : m < l.length) : sideL (l.take (m + 1)) b x = if kbit (l.getD m ([], [])).1 b = x then sideL (l.take m) b x ++ [l.getD m ([], [])] else sideL (l.take m) b x := by
  rw [List.take_succ_eq_append_getElem h, show l[m] = l.getD m ([], []) by simp [h], sideL, List.filter_append]
  generalize l.getD m ([], []) = P
  by_cases e : kbit P.1 b = x
  · rw [if_pos e, List.filter_cons_of_pos (by simp [e])]; simp [sideL]
  · rw [if_neg e, List.filter_cons_of_neg (by simp [e])]; simp [sideL]
theorem side_len (l : PL) (b : Nat) (x : Bool) : (sideL l b x).length ≤ l.length := List.length_filter_le _ _
theorem side_tree {l : PL} (h : Tree l) (b : Nat) (x : Bool) : Tree (sideL l b x) :=
  ⟨Nat.le_trans (side_len l b x) h.room, fun p hp => h.pairs p (List.mem_filter.1 hp).1, List.Pairwise.filter _ h.rises⟩
theorem part_pos {l : PL} (h : Tree l) (i j : Nat) (hij : i < j) (hj : j < l.length) : 0 ≤ partK (l.getD i ([], [])).1 (l.getD j ([], [])).1 := by
  have hk := rises_step l h.rises i j hij hj
  have h1 := (h.pairs l[i] (List.getElem_mem (by omega))).1
  have h2 := (h.pairs l[j] (List.getElem_mem hj)).1
  rw [show l[i] = l.getD i ([], []) by simp [show i < l.length by omega]] at h1
  rw [show l[j] = l.getD j ([], []) by simp [hj]] at h2
  have := partK_same (l.getD i ([], [])).1 (l.getD j ([], [])).1 h1.2 h2.2
  have hne := klt_ne hk
  by_cases hp : partK (l.getD i ([], [])).1 (l.getD j ([], [])).1 < 0
  · exact absurd (this.1 hp) hne
  · omega
theorem minTo_range {l : PL} (h : Tree l) : ∀ m, m ≤ l.length → 0 ≤ minTo l m ∧ (2 ≤ m → minTo l m ≤ 144) ∧ minTo l m ≤ 999
  | 0, _ => ⟨by simp [minTo], by omega, by simp [minTo]⟩
  | 1, _ => ⟨by simp [minTo], by omega, by simp [minTo]⟩
  | m + 2, hm => by
    have ih := minTo_range h (m + 1) (by omega)
    have hp := part_pos h 0 (m + 1) (by omega) (by omega)
    have hr := partK_range (l.getD 0 ([], [])).1 (l.getD (m + 1) ([], [])).1
    rw [minTo]
    by_cases hlt : partK (l.getD 0 ([], [])).1 (l.getD (m + 1) ([], [])).1 < minTo l (m + 1)
    · rw [if_pos hlt]; omega
    · rw [if_neg hlt]; omega
theorem forkBit_range {l : PL} (h : Tree l) (h2 : 2 ≤ l.length) : 0 ≤ forkBit l ∧ forkBit l ≤ 144 := by
  have := minTo_range h l.length (Nat.le_refl _)
  exact ⟨this.1, this.2.1 h2⟩
/-- It is the bit at which one of them differs from the first one, and it is met first. -/
theorem minTo_at {l : PL} (_h : Tree l) : ∀ m, 2 ≤ m → m ≤ l.length → ∃ j, 0 < j ∧ j < m ∧ minTo l m = partK (l.getD 0 ([], [])).1 (l.getD j ([], [])).1
  | 0, h, _ => by omega
  | 1, h, _ => by omega
  | m + 2, _, hm => by
    rw [minTo]
    by_cases hlt : partK (l.getD 0 ([], [])).1 (l.getD (m + 1) ([], [])).1 < minTo l (m + 1)
    · rw [if_pos hlt]; exact ⟨m + 1, by omega, by omega, rfl⟩
    · rw [if_neg hlt]
      by_cases h0 : m = 0
      · subst h0
        have hr := partK_range (l.getD 0 ([], [])).1 (l.getD (0 + 1) ([], [])).1
        simp only [minTo] at hlt
        omega
      · obtain ⟨j, h1, h2, h3⟩ := minTo_at _h (m + 1) (by omega) (by omega)
        exact ⟨j, h1, by omega, h3⟩
/-- Both sides have some. -/
theorem sides_less {l : PL} (h : Tree l) (h2 : 2 ≤ l.length) : ∀ x, (sideL l (forkBit l).toNat x).length < l.length := by
  obtain ⟨j, hj1, hj2, hj3⟩ := minTo_at h l.length h2 (Nat.le_refl _)
  have hr := forkBit_range h h2
  have hd : kbit (l.getD 0 ([], [])).1 (forkBit l).toNat ≠ kbit (l.getD j ([], [])).1 (forkBit l).toNat := by
    rcases partK_spec (l.getD 0 ([], [])).1 (l.getD j ([], [])).1 with ⟨e, _⟩ | ⟨m, e, _, _, hd⟩
    · rw [← hj3] at e; unfold forkBit at hr; omega
    · have : (forkBit l).toNat = m := by unfold forkBit; omega
      rw [this]; exact hd
  intro x
  by_cases hlt : (sideL l (forkBit l).toNat x).length < l.length
  · exact hlt
  · have he : (sideL l (forkBit l).toNat x).length = l.length := by have := side_len l (forkBit l).toNat x; omega
    have hall := List.length_filter_eq_length_iff.1 he
    have h0 := hall l[0] (List.getElem_mem (by omega))
    have hj := hall l[j] (List.getElem_mem hj2)
    rw [show l[0] = l.getD 0 ([], []) by simp [show 0 < l.length by omega]] at h0
    rw [show l[j] = l.getD j ([], []) by simp [hj2]] at hj
    simp only [beq_iff_eq] at h0 hj
    exact absurd (h0.trans hj.symm) hd
end Go.Proofs.YtdpoickggdgddacDoor

/-
  The bit at which pairs part is that of the first and the last one; its sides are a beginning and an end. No program is named.
-/
namespace Go.Proofs.YtdpoickggdgddacDoor
/-- How many stand on the left. -/
def sideN (l : PL) (b : Nat) : Nat := (l.takeWhile fun q => !kbit q.1 b).length
theorem minTo_least (l : PL) : ∀ m j, 0 < j → j < m → m ≤ l.length → minTo l m ≤ partK (l.getD 0 ([], [])).1 (l.getD j ([], [])).1
  | 0, j, _, h, _ => by omega
  | 1, j, h0, h, _ => by omega
  | m + 2, j, h0, h, hm => by
    rw [minTo]
    by_cases hlt : partK (l.getD 0 ([], [])).1 (l.getD (m + 1) ([], [])).1 < minTo l (m + 1)
    · rw [if_pos hlt]
      by_cases e : j = m + 1
      · subst e; exact Int.le_refl _
      · have := minTo_least l (m + 1) j h0 (by omega) (by omega); omega
    · rw [if_neg hlt]
      by_cases e : j = m + 1
      · subst e; omega
      · exact minTo_least l (m + 1) j h0 (by omega) (by omega)
/-- Ahead of it all are the same. -/
theorem fork_same {l : PL} (h : Tree l) (h2 : 2 ≤ l.length) (j : Nat) (hj : j < l.length) (b : Nat) (hb : b < (forkBit l).toNat) : kbit (l.getD 0 ([], [])).1 b = kbit (l.getD j ([], [])).1 b := by
  by_cases h0 : j = 0
  · subst h0; rfl
  · have hm := minTo_least l l.length j (by omega) hj (Nat.le_refl _)
    have hr := forkBit_range h h2
    rcases partK_spec (l.getD 0 ([], [])).1 (l.getD j ([], [])).1 with ⟨e, hs⟩ | ⟨m, e, hm1, hs, _⟩
    · exact hs b (by omega)
    · exact hs b (by unfold forkBit at hb; omega)
theorem fork_mono {l : PL} (h : Tree l) (h2 : 2 ≤ l.length) (i j : Nat) (hij : i < j) (hj : j < l.length) (hi : kbit (l.getD i ([], [])).1 (forkBit l).toNat = true) : kbit (l.getD j ([], [])).1 (forkBit l).toNat = true := by
  have hk := rises_step l h.rises i j hij hj
  have hp := part_pos h i j hij hj
  rcases partK_spec (l.getD i ([], [])).1 (l.getD j ([], [])).1 with ⟨e, _⟩ | ⟨m, e, hm, hs, hd⟩
  · omega
  · have hge : (forkBit l).toNat ≤ m := by
      by_cases hlt : m < (forkBit l).toNat
      · exact absurd ((fork_same h h2 i (by omega) m hlt).symm.trans (fork_same h h2 j hj m hlt)) hd
      · omega
    by_cases he : (forkBit l).toNat = m
    · rw [he]
      have := part_order _ _ m hs hd
      rw [this]; exact hk
    · rw [← hs _ (by omega)]; exact hi
/-- The first one has 0 there, the last one 1. -/
theorem fork_ends {l : PL} (h : Tree l) (h2 : 2 ≤ l.length) : kbit (l.getD 0 ([], [])).1 (forkBit l).toNat = false ∧ kbit (l.getD (l.length - 1) ([], [])).1 (forkBit l).toNat = true := by
  obtain ⟨j, hj1, hj2, hj3⟩ := minTo_at h l.length h2 (Nat.le_refl _)
  have hr := forkBit_range h h2
  have hk := rises_step l h.rises 0 j hj1 hj2
  rcases partK_spec (l.getD 0 ([], [])).1 (l.getD j ([], [])).1 with ⟨e, _⟩ | ⟨m, e, hm, hs, hd⟩
  · rw [← hj3] at e; unfold forkBit at hr; omega
  · have em : (forkBit l).toNat = m := by unfold forkBit; omega
    have ho := part_order _ _ m hs hd
    have hjt : kbit (l.getD j ([], [])).1 m = true := by rw [ho]; exact hk
    refine ⟨?_, ?_⟩
    · rw [em]
      cases hx : kbit (l.getD 0 ([], [])).1 m with
      | false => rfl
      | true => exact absurd (hx.trans hjt.symm) hd
    · by_cases hl : j = l.length - 1
      · rw [← hl, em]; exact hjt
      · exact fork_mono h h2 j (l.length - 1) (by omega) (by omega) (by rw [em]; exact hjt)
theorem fork_part {l : PL} (h : Tree l) (h2 : 2 ≤ l.length) : partK (l.getD 0 ([], [])).1 (l.getD (l.length - 1) ([], [])).1 = forkBit l := by
  have hr := forkBit_range h h2
  obtain ⟨e1, e2⟩ := fork_ends h h2
  rw [partK_of _ _ (forkBit l).toNat (by omega) (fun b hb => fork_same h h2 _ (by omega) b hb) (by rw [e1, e2]; simp)]
  omega
theorem side_le (l : PL) (b : Nat) : sideN l b ≤ l.length := by
  induction l with
  | nil => simp [sideN]
  | cons p r ih =>
    unfold sideN at ih ⊢
    rw [List.takeWhile_cons]
    cases h : kbit p.1 b with
    | false => simpa using ih
    | true => simp
theorem side_lt : ∀ (l : PL) (b j : Nat), j < sideN l b → kbit (l.getD j ([], [])).1 b = false
  | [], b, j, h => by simp [sideN] at h
  | p :: r, b, j, h => by
    cases hk : kbit p.1 b with
    | true => simp [sideN, hk] at h
    | false =>
      cases j with
      | zero => simpa using hk
      | succ j =>
        have := side_lt r b j (by unfold sideN at h ⊢; rw [List.takeWhile_cons_of_pos (p := fun q : Pr => !kbit q.1 b) (by simp [hk])] at h; simpa using h)
        simpa using this
theorem side_not : ∀ (l : PL) (b : Nat), sideN l b < l.length → kbit (l.getD (sideN l b) ([], [])).1 b = true
  | [], b, h => by simp at h
  | p :: r, b, h => by
    cases hk : kbit p.1 b with
    | true => simp [sideN, hk]
    | false =>
      have e : sideN (p :: r) b = sideN r b + 1 := by unfold sideN; rw [List.takeWhile_cons_of_pos (p := fun q : Pr => !kbit q.1 b) (by simp [hk])]; simp
      rw [e] at h ⊢
      have := side_not r b (by simpa using h)
      simpa using this
theorem bit_side {l : PL} (h : Tree l) (h2 : 2 ≤ l.length) (j : Nat) (hj : j < l.length) : kbit (l.getD j ([], [])).1 (forkBit l).toNat = decide (sideN l (forkBit l).toNat ≤ j) := by
  by_cases hlt : j < sideN l (forkBit l).toNat
  · rw [decide_eq_false (by omega)]; exact side_lt l _ j hlt
  · rw [decide_eq_true (by omega)]
    have h0 := side_not l (forkBit l).toNat (by omega)
    by_cases e : j = sideN l (forkBit l).toNat
    · rw [e]; exact h0
    · exact fork_mono h h2 _ j (by omega) hj h0
theorem side_range {l : PL} (h : Tree l) (h2 : 2 ≤ l.length) : 0 < sideN l (forkBit l).toNat ∧ sideN l (forkBit l).toNat < l.length := by
  obtain ⟨e1, e2⟩ := fork_ends h h2
  rw [bit_side h h2 0 (by omega)] at e1
  rw [bit_side h h2 _ (by omega)] at e2
  simp at e1 e2
  omega
theorem side_false {l : PL} (h : Tree l) (h2 : 2 ≤ l.length) : sideL l (forkBit l).toNat false = l.take (sideN l (forkBit l).toNat) := by
  have hs := side_range h h2
  have hb := fun j hj => bit_side h h2 j hj
  generalize (forkBit l).toNat = b at *
  generalize sideN l b = n at *
  have e : l = l.take n ++ l.drop n := (List.take_append_drop n l).symm
  rw [sideL]
  conv => lhs; rw [e]
  rw [List.filter_append, List.filter_eq_self.2, List.filter_eq_nil_iff.2, List.append_nil]
  · intro q hq
    obtain ⟨j, hj, rfl⟩ := List.mem_iff_getElem.1 hq
    have hjn : n + j < l.length := by simp at hj; omega
    rw [List.getElem_drop, show l[n + j] = l.getD (n + j) ([], []) by simp [hjn], hb _ hjn]
    simp
  · intro q hq
    obtain ⟨j, hj, rfl⟩ := List.mem_iff_getElem.1 hq
    have hjn : j < n := by simp at hj; omega
    rw [List.getElem_take, show l[j]'(by omega) = l.getD j ([], []) by simp [show j < l.length by omega], hb _ (by omega)]
    simp [hjn]
theorem side_true {l : PL} (h : Tree l) (h2 : 2 ≤ l.length) : sideL l (forkBit l).toNat true = l.drop (sideN l (forkBit l).toNat) := by
  have hs := side_range h h2
  have hb := fun j hj => bit_side h h2 j hj
  generalize (forkBit l).toNat = b at *
  generalize sideN l b = n at *
  have e : l = l.take n ++ l.drop n := (List.take_append_drop n l).symm
  rw [sideL]
  conv => lhs; rw [e]
  rw [List.filter_append, List.filter_eq_nil_iff.2, List.filter_eq_self.2, List.nil_append]
  · intro q hq
    obtain ⟨j, hj, rfl⟩ := List.mem_iff_getElem.1 hq
    have hjn : n + j < l.length := by simp at hj; omega
    rw [List.getElem_drop, show l[n + j] = l.getD (n + j) ([], []) by simp [hjn], hb _ hjn]
    simp
  · intro q hq
    obtain ⟨j, hj, rfl⟩ := List.mem_iff_getElem.1 hq
    have hjn : j < n := by simp at hj; omega
    rw [List.getElem_take, show l[j]'(by omega) = l.getD j ([], []) by simp [show j < l.length by omega], hb _ (by omega)]
    simp [hjn]
end Go.Proofs.YtdpoickggdgddacDoor

/-
  What path.Check must keep.
-/
namespace Go.Proofs.YtdpoickggdgddacDoor
open Go.RowKit
/-- path.Check keeps P2.1. -/
def CheckOK : Prop := ∀ (w : World) (a : Option Addr) (n cap : Nat), Calls Tryd.prog 16 #[.slice a n cap] w fun e w' => e = .returned (.int .i64 (keyFaultF n)) ∧ w.grownBy w' none
end Go.Proofs.YtdpoickggdgddacDoor

/-
  path.Check, as it landed, keeps P2.1.
-/
namespace Go.Proofs.YtdpoickggdgddacDoor
open Go.RowKit
theorem check_ok : CheckOK := by
  intro w a n cap
  by_cases h1 : 1 ≤ n
  · by_cases h2 : n ≤ 16
    · rw [keyFaultF, if_pos ⟨h1, h2⟩]
      have t1 : ¬ (n : Int) < 1 := by omega
      have t2 : ¬ (n : Int) > 16 := by omega
      go_enter Tryd.func16, Tryd.ntmps16
      go_wp2
      go_ret
      exact ⟨rfl, grown_refl _ _⟩
    · rw [keyFaultF, if_neg (by omega)]
      have t1 : ¬ (n : Int) < 1 := by omega
      have t2 : (n : Int) > 16 := by omega
      go_enter Tryd.func16, Tryd.ntmps16
      go_wp2
      go_ret
      exact ⟨rfl, grown_refl _ _⟩
  · rw [keyFaultF, if_neg (by omega)]
    have t1 : (n : Int) < 1 := by omega
    go_enter Tryd.func16, Tryd.ntmps16
    go_wp2
    go_ret
    exact ⟨rfl, grown_refl _ _⟩
end Go.Proofs.YtdpoickggdgddacDoor

/-
  What path.Bit must keep.
-/
namespace Go.Proofs.YtdpoickggdgddacDoor
open Go.RowKit
/-- path.Bit keeps P2.2. -/
def BitOK : Prop := ∀ (w : World) (v : Value) (bs : List UInt8) (i : Int), SliceIs w v bs → Calls Tryd.prog 12 #[v, .int .i64 i] w fun e w' => e = .returned (.tuple #[.bool (bitF bs i).1, .int .i64 (bitF bs i).2]) ∧ w.grownBy w' none
/-- path.Bit of a key. -/
theorem BitOK.of (hB : BitOK) (w : World) (v : Value) (k : List UInt8) (i : Nat) (hv : SliceIs w v k) (hk : 1 ≤ k.length ∧ k.length ≤ 16) (hi : i < 145) :
    Calls Tryd.prog 12 #[v, .int .i64 (i : Int)] w fun e w' => e = .returned (.tuple #[.bool (kbit k i), .int .i64 0]) ∧ w.grownBy w' none := by
  have := hB w v k i hv
  rw [bitF_ok k i hk hi] at this
  exact this
end Go.Proofs.YtdpoickggdgddacDoor

/-
  path.group, as it landed: the nine bits of a byte, as a number.
-/
namespace Go.Proofs.YtdpoickggdgddacDoor
open Go.RowKit
/-- The nine bits at a place. -/
def groupN (k : List UInt8) (p : Nat) : Nat := if p < k.length then 256 ||| (k.getD p 0).toNat else 0
theorem or_256 : ∀ c : Fin 256, 256 ||| c.val = 256 + c.val := by decide +kernel
theorem groupN_lt (k : List UInt8) (p : Nat) : groupN k p < 512 := by
  unfold groupN
  by_cases h : p < k.length
  · rw [if_pos h]
    have := or_256 ⟨(k.getD p 0).toNat, (k.getD p 0).toNat_lt⟩
    have := (k.getD p 0).toNat_lt
    simp only at *
    omega
  · rw [if_neg h]; decide
theorem kbit_group (k : List UInt8) (i : Nat) : kbit k i = (groupN k (i / 9)).testBit (8 - i % 9) := by
  unfold kbit groupN
  by_cases h : i / 9 < k.length
  · rw [if_pos h, if_pos h]
    by_cases h0 : i % 9 = 0
    · rw [if_pos h0, h0, Nat.testBit_or]
      simp
      left; decide
    · rw [if_neg h0, Nat.testBit_or, show Nat.testBit 256 (8 - i % 9) = false from ?_, Bool.false_or]
      have hj : 8 - i % 9 < 8 := by omega
      generalize 8 - i % 9 = j at hj
      revert hj; revert j; decide
  · rw [if_neg h, if_neg h]; simp
theorem wrap_u16 (x : Nat) (h : x < 65536) : IntKind.u16.wrap (x : Int) = (x : Int) := by
  rw [IntKind.wrap_u16]; omega
theorem or_u16 (x y : Nat) (hx : x < 65536) (hy : y < 65536) : bits .or .u16 (x : Int) (y : Int) = ((x ||| y : Nat) : Int) := by
  show IntKind.u16.wrap ((BitVec.ofInt 16 (x : Int) ||| BitVec.ofInt 16 (y : Int)).toNat : Int) = _
  rw [BitVec.ofInt_natCast, BitVec.ofInt_natCast, BitVec.toNat_or, BitVec.toNat_ofNat, BitVec.toNat_ofNat, Nat.mod_eq_of_lt (by omega), Nat.mod_eq_of_lt (by omega), wrap_u16]
  exact Nat.or_lt_two_pow (n := 16) hx hy
theorem xor_u16 (x y : Nat) (hx : x < 65536) (hy : y < 65536) : bits .xor .u16 (x : Int) (y : Int) = ((x ^^^ y : Nat) : Int) := by
  show IntKind.u16.wrap ((BitVec.ofInt 16 (x : Int) ^^^ BitVec.ofInt 16 (y : Int)).toNat : Int) = _
  rw [BitVec.ofInt_natCast, BitVec.ofInt_natCast, BitVec.toNat_xor, BitVec.toNat_ofNat, BitVec.toNat_ofNat, Nat.mod_eq_of_lt (by omega), Nat.mod_eq_of_lt (by omega), wrap_u16]
  exact Nat.xor_lt_two_pow (n := 16) hx hy
theorem and1_u16 (x : Nat) (hx : x < 65536) : bits .and .u16 (x : Int) 1 = ((x % 2 : Nat) : Int) := by
  show IntKind.u16.wrap ((BitVec.ofInt 16 (x : Int) &&& BitVec.ofInt 16 ((1 : Nat) : Int)).toNat : Int) = _
  rw [BitVec.ofInt_natCast, BitVec.ofInt_natCast, BitVec.toNat_and, BitVec.toNat_ofNat, BitVec.toNat_ofNat, Nat.mod_eq_of_lt (by omega), Nat.mod_eq_of_lt (by omega), Nat.and_one_is_mod, wrap_u16]
  omega
theorem group_any (w : World) (v : Value) (bs : List UInt8) (p : Nat) (hv : SliceIs w v bs) :
    Calls Tryd.prog 17 #[v, .int .i64 (p : Int)] w fun e w' => e = .returned (.int .u16 (groupN bs p)) ∧ w.grownBy w' none := by
  obtain ⟨a, cap, rfl, hc, hrest⟩ := hv
  by_cases hp : p < bs.length
  · rw [groupN, if_pos hp]
    rcases hrest with ⟨h0, _⟩ | ⟨b, o, rfl, hcell⟩
    · rw [h0] at hp; cases hp
    have t1 : ¬ (p : Int) ≥ (bs.length : Int) := by omega
    have c0 := hcell p hp
    go_enter Tryd.func17, Tryd.ntmps17
    go_wp2
    go_ret
    refine ⟨congrArg Ending.returned (congrArg (Value.int IntKind.u16) ?_), grown_refl _ _⟩
    have hb := (bs[p]).toNat_lt
    generalize (bs[p]).toNat = c at hb ⊢
    rw [wrap_u16 c (by omega), show (256 : Int) = ((256 : Nat) : Int) from rfl, or_u16 256 c (by omega) (by omega)]
  · rw [groupN, if_neg hp]
    have t1 : (p : Int) ≥ (bs.length : Int) := by omega
    go_enter Tryd.func17, Tryd.ntmps17
    go_wp2
    go_ret
    exact ⟨rfl, grown_refl _ _⟩
end Go.Proofs.YtdpoickggdgddacDoor

/-
  path.Bit, as it landed, keeps P2.2.
-/
namespace Go.Proofs.YtdpoickggdgddacDoor
open Go.RowKit
set_option maxRecDepth 100000 in
set_option maxHeartbeats 1000000 in
theorem bit_ok : BitOK := by
  intro w v bs i hv
  obtain ⟨a, cap, rfl, hc, hrest⟩ := hv
  have hv : SliceIs w (.slice a bs.length cap) bs := ⟨a, cap, rfl, hc, hrest⟩
  clear hrest
  by_cases hk : 1 ≤ bs.length ∧ bs.length ≤ 16
  · by_cases hi : 0 ≤ i ∧ i ≤ 144
    · rw [bitF, if_pos hk, if_pos hi]
      obtain ⟨n, rfl⟩ : ∃ n : Nat, i = (n : Int) := ⟨i.toNat, by omega⟩
      have t1 : ¬ (n : Int) < 0 := by omega
      have t2 : ¬ (n : Int) ≥ 145 := by omega
      go_enter Tryd.func12, Tryd.ntmps12
      go_wp2_with fail
      refine (check_ok _ _ _ _).mono ?_
      rintro e w1 ⟨rfl, hg1⟩
      rw [keyFaultF, if_pos hk]
      go_wp2_with fail
      refine (group_any _ _ _ (n / 9) (hv.grown hg1)).mono ?_
      rintro e w2 ⟨rfl, hg2⟩
      have hgn := groupN_lt bs (n / 9)
      have HB : Hid (kbit bs n = (groupN bs (n / 9)).testBit (8 - n % 9)) := kbit_group bs n
      generalize groupN bs (n / 9) = g at hgn HB ⊢
      have q1 : 0 ≤ (8 : Int) - (n : Int) % 9 := by omega
      go_wp2
      go_ret2
      refine ⟨?_, grown_trans hg1 hg2⟩
      have he : (g : Int) / 2 ^ (8 - n % 9) = ((g / 2 ^ (8 - n % 9) : Nat) : Int) := by simp
      have hlt : g / 2 ^ (8 - n % 9) < 65536 := Nat.lt_of_le_of_lt (Nat.div_le_self _ _) (by omega)
      rw [he, and1_u16 _ hlt, show kbit bs ((n : Int)).toNat = kbit bs n from rfl, HB.out, Nat.testBit_eq_decide_div_mod_eq]
      congr 4
      generalize g / 2 ^ (8 - n % 9) % 2 = x
      by_cases hx : x = 1
      · subst hx; rfl
      · have : ¬ (x : Int) = 1 := by omega
        simp [hx, this]
    · rw [bitF, if_pos hk, if_neg hi]
      go_enter Tryd.func12, Tryd.ntmps12
      go_wp2_with fail
      refine (check_ok _ _ _ _).mono ?_
      rintro e w1 ⟨rfl, hg1⟩
      rw [keyFaultF, if_pos hk]
      by_cases h0 : i < 0
      · go_wp2
        go_ret2
        exact ⟨rfl, hg1⟩
      · have h1 : i ≥ 145 := by omega
        go_wp2
        go_ret2
        exact ⟨rfl, hg1⟩
  · rw [bitF, if_neg hk]
    go_enter Tryd.func12, Tryd.ntmps12
    go_wp2_with fail
    refine (check_ok _ _ _ _).mono ?_
    rintro e w1 ⟨rfl, hg1⟩
    rw [keyFaultF, if_neg hk]
    go_wp2
    go_ret2
    exact ⟨rfl, hg1⟩
end Go.Proofs.YtdpoickggdgddacDoor

/-
  What path.Part must keep.
-/
namespace Go.Proofs.YtdpoickggdgddacDoor
open Go.RowKit
/-- path.Part keeps P2.3. -/
def PartOK : Prop := ∀ (w : World) (v u : Value) (a b : List UInt8), SliceIs w v a → SliceIs w u b → Calls Tryd.prog 10 #[v, u] w fun e w' => e = .returned (.tuple #[.int .i64 (partF a b).1, .int .i64 (partF a b).2]) ∧ w.grownBy w' none

/-- path.Part of two keys. -/
theorem PartOK.of (hP : PartOK) (w : World) (v u : Value) (a b : List UInt8) (hv : SliceIs w v a) (hu : SliceIs w u b) (ha : 1 ≤ a.length ∧ a.length ≤ 16) (hb : 1 ≤ b.length ∧ b.length ≤ 16) :
    Calls Tryd.prog 10 #[v, u] w fun e w' => e = .returned (.tuple #[.int .i64 (partK a b), .int .i64 0]) ∧ w.grownBy w' none := by
  have := hP w v u a b hv hu
  rw [partF_ok a b ha hb] at this
  exact this
end Go.Proofs.YtdpoickggdgddacDoor

/-
  math/bits.Len16: the library's own text, walked.
-/
namespace Go.Proofs.YtdpoickggdgddacDoor
open Go.RowKit
theorem tab_at (i : Int) (h0 : 0 ≤ i) (h1 : i ≤ 255) (h : i.toNat < Lib.len8tab.size) : ((Lib.len8tab[i.toNat]'h).toNat : Int) = (Lib.bitLen i.toNat : Int) := by
  rw [← Lib.len8_of i h0 h1]
  simp only [Lib.len8, ByteArray.getElem?_lt' _ _ h, Option.getD_some]
set_option maxHeartbeats 4000000 in
set_option maxRecDepth 100000 in
theorem len16_any (x : Int) (w : World) (h0 : 0 ≤ x) (h1 : x ≤ 65535) :
    Calls Tryd.prog 18 #[.int .u16 x] w fun e w' => e = .returned (.int .i64 (Lib.bitLen x.toNat)) ∧ w' = w := by
  have hs := Lib.len8tab_size
  by_cases hx : 256 ≤ x
  · have q : 0 ≤ x / 256 ∧ x / 256 < (Lib.len8tab.size : Int) := by omega
    have l := Lib.bitLen_le8' (x / 256) (by omega) (by omega)
    have s := Lib.bitLen_shift8 x.toNat (by omega) (by omega)
    have T := tab_at (x / 256) q.1 (by omega) (by omega)
    go_enter Tryd.func18, Tryd.ntmps18
    go_wp2
    go_ret
    refine ⟨congrArg Ending.returned (congrArg (Value.int IntKind.i64) ?_), rfl⟩
    have e : (x / 256).toNat = x.toNat / 256 := by omega
    rw [e]
    omega
  · have q : 0 ≤ x ∧ x < (Lib.len8tab.size : Int) := by omega
    have l := Lib.bitLen_le8' x (by omega) (by omega)
    have T := tab_at x q.1 (by omega) (by omega)
    go_enter Tryd.func18, Tryd.ntmps18
    go_wp2
    go_ret
    exact ⟨rfl, rfl⟩
theorem bitLen_512 : ∀ n : Fin 512, n.val ≠ 0 → 1 ≤ Lib.bitLen n.val ∧ Lib.bitLen n.val ≤ 9 ∧ n.val.testBit (Lib.bitLen n.val - 1) = true ∧ ∀ j : Fin 9, Lib.bitLen n.val ≤ j.val → n.val.testBit j.val = false := by decide +kernel
end Go.Proofs.YtdpoickggdgddacDoor

/-
  path.Part, as it landed, keeps P2.3.
-/
namespace Go.Proofs.YtdpoickggdgddacDoor
open Go.RowKit
/-- Where two groups differ first. -/
theorem part_group (a b : List UInt8) (p : Nat) (hp : p < 16) (h : ∀ q, q < p → groupN a q = groupN b q) (hd : groupN a p ^^^ groupN b p ≠ 0) :
    partK a b = ((9 * p + 9 - Lib.bitLen (groupN a p ^^^ groupN b p) : Nat) : Int) ∧ 1 ≤ Lib.bitLen (groupN a p ^^^ groupN b p) ∧ Lib.bitLen (groupN a p ^^^ groupN b p) ≤ 9 := by
  have hlt : groupN a p ^^^ groupN b p < 512 := Nat.xor_lt_two_pow (n := 9) (groupN_lt a p) (groupN_lt b p)
  obtain ⟨h1, h2, h3, h4⟩ := bitLen_512 ⟨_, hlt⟩ hd
  simp only at h1 h2 h3 h4
  generalize hL : Lib.bitLen (groupN a p ^^^ groupN b p) = L at h1 h2 h3 h4
  refine ⟨partK_of a b _ (by omega) (fun j hj => ?_) ?_, h1, h2⟩
  · rw [kbit_group, kbit_group]
    by_cases hjp : j / 9 < p
    · rw [h _ hjp]
    · have e : j / 9 = p := by omega
      have := h4 ⟨8 - j % 9, by omega⟩ (by simp only; omega)
      simp only [Nat.testBit_xor] at this
      rw [e]
      revert this
      cases (groupN a p).testBit (8 - j % 9) <;> cases (groupN b p).testBit (8 - j % 9) <;> simp
  · rw [kbit_group, kbit_group, show (9 * p + 9 - L) / 9 = p by omega, show 8 - (9 * p + 9 - L) % 9 = L - 1 by omega]
    rw [Nat.testBit_xor] at h3
    intro e
    rw [e] at h3
    simp at h3
theorem part_none (a b : List UInt8) (h : ∀ q, q < max a.length b.length → groupN a q = groupN b q) : partK a b = -1 := by
  refine partK_none a b fun j _ => ?_
  rw [kbit_group, kbit_group]
  by_cases hj : j / 9 < max a.length b.length
  · rw [h _ hj]
  · rw [groupN, if_neg (by omega), groupN, if_neg (by omega)]
theorem xor_ne (x y : Nat) (h : x ^^^ y = 0) : x = y := by
  apply Nat.eq_of_testBit_eq
  intro i
  have := congrArg (·.testBit i) h
  simp only [Nat.testBit_xor, Nat.zero_testBit] at this
  revert this
  cases x.testBit i <;> cases y.testBit i <;> simp
set_option maxRecDepth 100000 in
set_option maxHeartbeats 1000000 in
theorem part_ok : PartOK := by
  intro w v u a b hv hu
  obtain ⟨va, vcap, rfl, hvc, hvr⟩ := hv
  have hv : SliceIs w (.slice va a.length vcap) a := ⟨va, vcap, rfl, hvc, hvr⟩
  obtain ⟨ua, ucap, rfl, huc, hur⟩ := hu
  have hu : SliceIs w (.slice ua b.length ucap) b := ⟨ua, ucap, rfl, huc, hur⟩
  clear hvr hur
  by_cases ha : 1 ≤ a.length ∧ a.length ≤ 16
  · by_cases hb : 1 ≤ b.length ∧ b.length ≤ 16
    · rw [partF, if_pos ha, if_pos hb]
      go_enter Tryd.func10, Tryd.ntmps10
      go_wp2_with fail
      refine (check_ok _ _ _ _).mono ?_
      rintro e w1 ⟨rfl, hg1⟩
      rw [keyFaultF, if_pos ha]
      go_wp2_with fail
      refine (check_ok _ _ _ _).mono ?_
      rintro e w2 ⟨rfl, hg2⟩
      rw [keyFaultF, if_pos hb]
      have hg := grown_trans hg1 hg2
      have hv2 := hv.grown hg
      have hu2 := hu.grown hg
      obtain ⟨M, hM⟩ : ∃ M : Nat, M = max a.length b.length := ⟨_, rfl⟩
      have hM16 : M ≤ 16 := by omega
      have HMi : Hid (max (a.length : Int) (b.length : Int) = (M : Int)) := by show max (a.length : Int) (b.length : Int) = (M : Int); omega
      have HM : Hid (M = max a.length b.length) := hM
      clear hv hu hg1 hg2 hM
      go_wp2_with fail
      rw [HMi.out]
      go_loopw [21] (fun iv wr => ∃ m : Nat, m ≤ M ∧ iv = .int .i64 (m : Int) ∧ w2.grownBy wr none ∧ ∀ q, q < m → groupN a q = groupN b q) (fun iv _ => M - (intOf iv).toNat)
      case atStart => exact ⟨0, by omega, rfl, grown_refl _ _, fun j hj => by omega⟩
      case round =>
        obtain ⟨m, hm, rfl, hgr, hsame⟩ := hrel
        have HSame : Hid (∀ j, j < m → groupN a j = groupN b j) := hsame
        have hgw := grown_trans hg hgr
        have hvr := hv2.grown hgr
        have hur := hu2.grown hgr
        clear hsame
        by_cases hlt : m < M
        · have t1 : (m : Int) < (M : Int) := by omega
          go_wp2_with fail
          refine (group_any _ _ _ m hvr).mono ?_
          rintro e w3 ⟨rfl, hg3⟩
          go_wp2_with fail
          refine (group_any _ _ _ m (hur.grown hg3)).mono ?_
          rintro e w4 ⟨rfl, hg4⟩
          have hx := xor_u16 (groupN a m) (groupN b m) (Nat.lt_trans (groupN_lt a m) (by decide)) (Nat.lt_trans (groupN_lt b m) (by decide))
          have hxl : groupN a m ^^^ groupN b m < 512 := Nat.xor_lt_two_pow (n := 9) (groupN_lt a m) (groupN_lt b m)
          by_cases h0 : groupN a m ^^^ groupN b m = 0
          · have HE : Hid (groupN a m = groupN b m) := xor_ne _ _ h0
            rw [h0] at hx
            go_wp2_with fail
            go_roundw
            case rel =>
              have hs : ∀ j, j < m + 1 → groupN a j = groupN b j := fun j hj => by
                by_cases hjm : j = m
                · subst hjm; exact HE.out
                · exact HSame.out j (by omega)
              first
                | exact ⟨m + 1, by omega, by go_num, grown_trans hgr (grown_trans hg3 hg4), hs⟩
                | ((repeat apply Exists.intro); refine ⟨⟨m + 1, by omega, ?_, grown_trans hgr (grown_trans hg3 hg4), hs⟩, rfl⟩; go_num)
            case measure => simp [intOf]; omega
          · obtain ⟨hP, hL1, hL2⟩ := part_group a b m (by omega) HSame.out h0
            have HP : Hid (partK a b = _) := hP
            clear hP
            generalize groupN a m ^^^ groupN b m = x at *
            have hx0 : ((x : Int) != 0) = true := by simp; omega
            go_wp2_with fail
            refine (len16_any (x : Int) _ (by omega) (by omega)).mono ?_
            rintro e w5 ⟨rfl, rfl⟩
            rw [show ((x : Int)).toNat = x from rfl]
            generalize Lib.bitLen x = L at *
            go_wp2
            go_ret2
            refine ⟨?_, grown_trans hgw (grown_trans hg3 hg4)⟩
            rw [HP.out, show ((9 * m + 9 - L : Nat) : Int) = (m : Int) * 9 + 9 - (L : Int) by omega]
            rfl
        · obtain rfl : m = M := by omega
          have HP : Hid (partK a b = -1) := part_none a b (by rw [← HM.out]; exact HSame.out)
          go_wp2
          go_ret2
          exact ⟨by rw [HP.out]; rfl, hgw⟩
    · rw [partF, if_pos ha, if_neg hb]
      go_enter Tryd.func10, Tryd.ntmps10
      go_wp2_with fail
      refine (check_ok _ _ _ _).mono ?_
      rintro e w1 ⟨rfl, hg1⟩
      rw [keyFaultF, if_pos ha]
      go_wp2_with fail
      refine (check_ok _ _ _ _).mono ?_
      rintro e w2 ⟨rfl, hg2⟩
      rw [keyFaultF, if_neg hb]
      go_wp2
      go_ret2
      exact ⟨rfl, grown_trans hg1 hg2⟩
  · rw [partF, if_neg ha]
    go_enter Tryd.func10, Tryd.ntmps10
    go_wp2_with fail
    refine (check_ok _ _ _ _).mono ?_
    rintro e w1 ⟨rfl, hg1⟩
    rw [keyFaultF, if_neg ha]
    go_wp2
    go_ret2
    exact ⟨rfl, hg1⟩
end Go.Proofs.YtdpoickggdgddacDoor
