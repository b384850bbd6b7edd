/-
  The walk of canopykeep.Pairs: a tree out of raw items.
-/
import Derived.Test.YtedmhejnbapklaaDoorPairMem
import Derived.Test.YtedmhejnbapklaaDoorPart2
import Derived.Test.YtedmhejnbapklaaDoorKSame
import Derived.Test.YtedmhejnbapklaaDoorKeyO
import Derived.Deep.RegionWith
import Derived.Handy
namespace Go.Proofs.YtedmhejnbapklaaDoor
open Go.RowKit
set_option maxRecDepth 100000 in
set_option maxHeartbeats 2000000 in
theorem kpairs_any (w : World) (v : Value) (l : PL) (n : Nat) (hv : PairsIs w v l) (hl : Fits l) (hn : n ≤ 60) :
    Calls Tryd.prog 18 #[v, .int .i64 (n : Int)] w fun e w' => ∃ v', e = .returned v' ∧ OwnP w.heap.size w' v' (mkT (l.take n)) ∧ w.grownBy w' none := by
  obtain ⟨a, cap, rfl⟩ := hv.shape
  go_enter Tryd.func18, Tryd.ntmps18
  go_wp2_with fail
  go_loopw [5, 6] (fun cv i wr => ∃ (m : Nat) (T : PL), m ≤ l.length ∧ m ≤ n ∧ i = .int .i64 (m : Int) ∧ mkT (l.take m) = T ∧ T.length ≤ m ∧ OwnP w.heap.size wr cv T ∧ w.grownBy wr none) (fun _ i _ => l.length - (intOf i).toNat)
  case atStart => exact ⟨0, [], by omega, by omega, rfl, rfl, by simp, ownP_nil _ _, grown_refl _ _⟩
  case round =>
    obtain ⟨m, T, hm, hmn, rfl, hT, hTl, hown, hg⟩ := hrel
    by_cases hlt : m < l.length ∧ m < n
    · obtain ⟨hlt1, hlt2⟩ := hlt
      obtain ⟨b, o, rfl, hat⟩ := hv.at m hlt1
      obtain ⟨vk, vv, c1, c2, s1, s2⟩ := hat.grown hg
      have hT2 := mkT_take l m hlt1
      obtain ⟨hl1, hl2⟩ := hl.each m hlt1
      generalize l.getD m ([], []) = It at *
      rw [hT] at hT2
      have HT2 : Hid (mkT (l.take (m + 1)) = putL T (itemP It)) := hT2
      have KY : Hid (∀ w', wr.grownBy w' none → Calls Tryd.prog 19 #[vk] w' fun e w'' => ∃ v', e = .returned v' ∧ Own w'.heap.size w'' v' (itemP It).1 ∧ w'.grownBy w'' none) := fun w' hg => keyO_any w' vk It.1 (s1.grown hg) (by unfold maxLen; omega)
      have SO : Hid (∀ w', wr.grownBy w' none → Calls Tryd.prog 46 #[vv, .int .i64 32] w' fun e w'' => ∃ v', e = .returned v' ∧ Own w'.heap.size w'' v' (itemP It).2 ∧ w'.grownBy w'' none) := fun w' hg => some_any w' vv It.2 32 (by omega) (s2.grown hg) (by unfold maxLen; omega)
      have hP := itemP_ok It
      generalize itemP It = P at *
      obtain ⟨ak, ck, rfl⟩ := s1.shape
      obtain ⟨av, cv, rfl⟩ := s2.shape
      obtain ⟨ca, ccap, rfl⟩ := hown.shape
      clear hat s1 s2 hT2 hT
      have i1 : (m : Int) < (l.length : Int) := by omega
      have i2 : (m : Int) < (n : Int) := by omega
      go_upto_region 5 with fail
      go_cut [7] (fun s7 wx => ∃ (pb : Nat) (xa : Option Addr) (xc : Nat) (ya : Option Addr) (yc : Nat), s7 = .pointer (some ⟨pb, 0, none⟩) ∧ wx.heap[pb]? = some (.cells #[.slice xa P.1.length xc, .slice ya P.2.length yc] 27) ∧ PartIs w.heap.size wx (.slice xa P.1.length xc) P.1 ∧ PartIs w.heap.size wx (.slice ya P.2.length yc) P.2 ∧ wr.grownBy wx none)
      case first =>
        have hgd := grown_drew (grown_refl wr none)
        have hga0 : wr.grownBy (wr.alloc (.cells #[.slice none 0 0, .slice none 0 0] 27)) none := grown_alloc (grown_refl wr none) _
        have hga : wr.grownBy (wr.alloc (.cells #[.slice none 0 0, .slice none 0 0] 27)).drew none := grown_drew hga0
        have d1 := hga0.cell c1 (by simp)
        have d2 := hga0.cell c2 (by simp)
        go_region_with (first
          | (go_at_call 19; refine (KY.out _ ?_).mono ?_; first | exact hgd | exact hga
             rintro e w1 ⟨v1, rfl, ok, hg1⟩; obtain ⟨xa, xc, rfl⟩ := ok.shape
             have hgk : wr.grownBy w1 none := by first | exact grown_trans hgd hg1 | exact grown_trans hga hg1
             have hc2 := hgk.cell c2 (by simp)
             have hc3 := (grown_alloc (grown_refl w1 none) (.cells #[.slice none 0 0, .slice none 0 0] 27)).cell hc2 (by simp))
          | (go_at_call 46; refine (SO.out _ ?_).mono ?_; first | exact hgk | exact grown_alloc hgk _
             rintro e w2 ⟨v2, rfl, ov, hg2⟩; obtain ⟨ya, yc, rfl⟩ := ov.shape
             first
               | (refine pair_room_elim (b := wr.heap.size) (grown_trans hg1 hg2) (heap_alloc_new wr (.cells #[.slice none 0 0, .slice none 0 0] 27)) ?_; intro hpb0 cA cB fA fB; have HPB : Hid (w2.heap[wr.heap.size]? = some (.cells #[.slice none 0 0, .slice none 0 0] 27)) := hpb0; clear hpb0)
               | (refine pair_room_elim (b := w1.heap.size) hg2 (heap_alloc_new w1 (.cells #[.slice none 0 0, .slice none 0 0] 27)) ?_; intro hpb0 cA cB fA fB; have HPB : Hid (w2.heap[w1.heap.size]? = some (.cells #[.slice none 0 0, .slice none 0 0] 27)) := hpb0; clear hpb0)
               | skip))
        all_goals (go_wp2_with fail; go_meet; case rel =>
          have hs0 := hg.size
          have hs1 := hgk.size
          first
            | exact ⟨w2.heap.size, xa, xc, ya, yc, rfl, heap_alloc_new w2 _, ((ok.grownNone hg2).alloc _).part, (ov.alloc _).part, grown_alloc (grown_trans hgk hg2) _⟩
            | exact ⟨wr.heap.size, xa, xc, ya, yc, rfl, (pair_stored (base := w.heap.size) HPB.out (by omega) _ _).1, (pair_stored (base := w.heap.size) HPB.out (by omega) _ _).2.1 _ _ (ok.grownNone hg2).part, (pair_stored (base := w.heap.size) HPB.out (by omega) _ _).2.1 _ _ ov.part, (pair_stored (base := w.heap.size) HPB.out (by omega) _ _).2.2 wr (Nat.le_refl _) (grown_trans hgk hg2)⟩
            | exact ⟨w1.heap.size, xa, xc, ya, yc, rfl, (pair_stored (base := w.heap.size) HPB.out (by omega) _ _).1, (pair_stored (base := w.heap.size) HPB.out (by omega) _ _).2.1 _ _ ((ok.alloc _).grownNone hg2).part, (pair_stored (base := w.heap.size) HPB.out (by omega) _ _).2.1 _ _ ov.part, (pair_stored (base := w.heap.size) HPB.out (by omega) _ _).2.2 wr hs1 (grown_trans (grown_alloc hgk _) hg2)⟩)
      case rest =>
        obtain ⟨pb, xa, xc, ya, yc, rfl, hpb, hpk, hpv, hgx⟩ := hcut
        have hgw := grown_trans hg hgx
        have hownx := OwnP.grownNone hown hgx
        obtain ⟨c3, c4, _, _⟩ := pair_room (grown_refl wc none) hpb
        have CB : Hid (∀ w', wc.grownBy w' none → (convert 23 9 (.slice xa P.1.length xc)).run Tryd.prog w' = .ok (.string (textOf P.1)) w') := fun w' hg => conv_bytes w' _ _ (hpk.slice.grown hg)
        clear hown hg hgx c1 c2 KY SO
        have HPB : Hid (wc.heap[pb]? = some (.cells #[.slice xa P.1.length xc, .slice ya P.2.length yc] 27)) := hpb
        have HPK : Hid (PartIs w.heap.size wc (.slice xa P.1.length xc) P.1) := hpk
        have HPV : Hid (PartIs w.heap.size wc (.slice ya P.2.length yc) P.2) := hpv
        have HOX : Hid (OwnP w.heap.size wc (.slice ca T.length ccap) T) := hownx
        clear hpb hpk hpv hownx
        go_wp2_with fail
        go_loopw [8] (fun s wr => ∃ k : Nat, k ≤ T.length ∧ s = .int .i64 (k : Int) ∧ wc.grownBy wr none ∧ ∀ j, j < k → klt (T.getD j ([], [])).1 P.1 = true) (fun s _ => T.length - (intOf s).toNat)
        case atStart => exact ⟨0, by omega, rfl, grown_refl _ _, fun j hj => by omega⟩
        case round =>
          obtain ⟨k, hk, rfl, hgr, hbef⟩ := hrel
          have HB : Hid (∀ j, j < k → klt (T.getD j ([], [])).1 P.1 = true) := hbef
          have c5 := hgr.cell c3 (by simp)
          clear hbef
          obtain ⟨z, hz⟩ : ∃ z : Bool, (decide (k < T.length) && klt (T.getD k ([], [])).1 P.1) = z := ⟨_, rfl⟩
          have HZ : Hid ((decide (k < T.length) && klt (T.getD k ([], [])).1 P.1) = z) := hz
          go_upto_region 7 with fail
          go_cut [49] (fun s49 wx => s49 = .bool z ∧ wc.grownBy wx none)
          case first =>
            by_cases hkl : k < T.length
            · have t3 : (k : Int) < (T.length : Int) := by omega
              obtain ⟨g, o2, rfl, hat⟩ := (HOX.out.list.grown hgr).at k hkl
              obtain ⟨qk, qv, e1, e2, r1, r2⟩ := hat
              have cv1 := conv_bytes wr.drew _ _ ((HPK.out.slice.grown hgr).drew)
              have cv2 := conv_bytes wr.drew _ _ r1.drew
              obtain ⟨qa, qc, rfl⟩ := r1.shape
              clear r1 r2 e2
              generalize (T.getD k ([], [])).1 = q at *
              have hkt : Op.bytesLess (textOf q).toList (textOf P.1).toList = z := by rw [textOf_list, textOf_list, ← hz, decide_eq_true hkl]; rfl
              clear hz
              go_region
              all_goals (go_wp2_with fail; go_meet; case rel => exact ⟨rfl, grown_drew hgr⟩)
            · have t3 : ¬ (k : Int) < (T.length : Int) := by omega
              have hz' : z = false := by rw [← hz, decide_eq_false hkl]; rfl
              subst hz'
              clear hz
              go_region
              all_goals (go_wp2_with fail; go_meet; case rel => exact ⟨rfl, grown_drew hgr⟩)
          case rest =>
            clear hgr c5
            obtain ⟨rfl, hgr⟩ := hcut
            clear hz
            cases z with
            | true =>
              have hZ := HZ.out
              simp only [Bool.and_eq_true, decide_eq_true_eq] at hZ
              obtain ⟨hkl, hkt⟩ := hZ
              have HKT : Hid (klt (T.getD k ([], [])).1 P.1 = true) := hkt
              clear hkt
              go_wp2_with fail
              go_roundw
              case rel =>
                have hs : ∀ j, j < k + 1 → klt (T.getD j ([], [])).1 P.1 = true := fun j hj => by
                  by_cases hjk : j = k
                  · subst hjk; exact HKT.out
                  · exact HB.out j (by omega)
                first
                  | exact ⟨k + 1, by omega, by go_num, hgr, hs⟩
                  | ((repeat apply Exists.intro); refine ⟨⟨k + 1, by omega, ?_, hgr, hs⟩, rfl⟩; go_num)
              case measure => simp [intOf]; omega
            | false =>
              have HNX : Hid (k < T.length → klt (T.getD k ([], [])).1 P.1 = false) := fun h => by
                have := HZ.out
                rw [decide_eq_true h] at this
                simpa using this
              have HPUT : Hid (putL T P = if k < T.length ∧ (T.getD k ([], [])).1 = P.1 then T.set k P else T.take k ++ ([P] ++ T.drop k)) := put_pos T P k hk HB.out HNX.out
              have c5 := hgr.cell c3 (by simp)
              have c6 := hgr.cell c4 (by simp)
              have HPK2 : Hid (PartIs w.heap.size wc (.slice xa P.1.length xc) P.1) := HPK.out.kept hgr (.inl rfl)
              have HPV2 : Hid (PartIs w.heap.size wc (.slice ya P.2.length yc) P.2) := HPV.out.kept hgr (.inl rfl)
              have HOX2 : Hid (OwnP w.heap.size wc (.slice ca T.length ccap) T) := HOX.out.grownNone hgr
              have hgc := grown_trans hgw hgr
              obtain ⟨y, hy⟩ : ∃ y : Bool, (decide (k < T.length) && decide ((T.getD k ([], [])).1 = P.1)) = y := ⟨_, rfl⟩
              have HY : Hid ((decide (k < T.length) && decide ((T.getD k ([], [])).1 = P.1)) = y) := hy
              clear HPK HPV HOX hgr hgw c3 c4 CB HPB HZ HNX
              obtain ⟨wk, rfl⟩ : ∃ wk : World, wk = wc := ⟨_, rfl⟩
              go_upto_region 9 with fail
              go_cut [65] (fun s65 wx => s65 = .bool y ∧ ∃ d, wx = wk.drewN d)
              case first =>
                by_cases hkl : k < T.length
                · have t3 : (k : Int) < (T.length : Int) := by omega
                  obtain ⟨g, o2, rfl, hat⟩ := HOX2.out.list.at k hkl
                  obtain ⟨qk, qv, e1, e2, r1, r2⟩ := hat
                  obtain ⟨qa, qc, rfl⟩ := r1.shape
                  have R1 : Hid (SliceIs wk (.slice qa (T.getD k ([], [])).1.length qc) (T.getD k ([], [])).1) := r1
                  have hy' : y = decide ((T.getD k ([], [])).1 = P.1) := by rw [← hy, decide_eq_true hkl]; rfl
                  subst hy'
                  clear r1 r2 e2 hy HY HPUT
                  generalize (T.getD k ([], [])).1 = q at *
                  go_quiet (first | (go_at_call 22; exact Calls.quiet_of_same (same_any _ _ _ _ _ (R1.out.drewN _) (HPK2.out.slice.drewN _))))
                  go_wp2_with fail
                  go_meet
                  case rel => exact ⟨rfl, nq, rfl⟩
                · have t3 : ¬ (k : Int) < (T.length : Int) := by omega
                  have hy' : y = false := by rw [← hy, decide_eq_false hkl]; rfl
                  subst hy'
                  clear hy
                  go_quiet (fail)
                  go_wp2_with fail
                  go_meet
                  case rel => exact ⟨rfl, nq, rfl⟩
              case rest =>
                obtain ⟨rfl, d, rfl⟩ := hcut
                clear hy
                have hgd := grown_drewN (grown_refl wk none) d
                have c7 := hgd.cell c5 (by simp)
                have c8 := hgd.cell c6 (by simp)
                have HPK3 : Hid (PartIs w.heap.size (wk.drewN d) (.slice xa P.1.length xc) P.1) := HPK2.out.kept hgd (.inl rfl)
                have HPV3 : Hid (PartIs w.heap.size (wk.drewN d) (.slice ya P.2.length yc) P.2) := HPV2.out.kept hgd (.inl rfl)
                have HOX3 : Hid (OwnP w.heap.size (wk.drewN d) (.slice ca T.length ccap) T) := HOX2.out.grownNone hgd
                have hgcd := grown_trans hgc hgd
                clear HPK2 HPV2 HOX2 hgc c5 c6 hgd
                generalize wk.drewN d = wx at *
                cases y with
                | true =>
                  have hY := HY.out
                  simp only [Bool.and_eq_true, decide_eq_true_eq] at hY
                  obtain ⟨hkl, hke⟩ := hY
                  have HN : Hid (mkT (l.take (m + 1)) = T.set k P) := by
                    show _ = _
                    rw [HT2.out, HPUT.out, if_pos ⟨hkl, hke⟩]
                  have hox := HOX3.out
                  rcases hox.cases with ⟨e, e0⟩ | ⟨g, cap', e, hbg, hglt, hcl, hcm, hfz⟩
                  · rw [e0] at hkl; simp at hkl
                  simp only [Value.slice.injEq] at e
                  obtain ⟨rfl, _, rfl⟩ := e
                  obtain ⟨g', o', e, hat⟩ := hox.list.at k hkl
                  simp only [Option.some.injEq, Addr.mk.injEq] at e
                  obtain ⟨rfl, rfl, _⟩ := e
                  obtain ⟨qk, qv, e1, e2, _, _⟩ := hat
                  rw [Nat.zero_add] at e1 e2
                  have fz1 := hfz (k * 2) (by omega)
                  have fz2 := hfz (k * 2 + 1) (by omega)
                  have t3 : (k : Int) < (T.length : Int) := by omega
                  have HSET : Hid (OwnP w.heap.size ((wx.setCell ⟨g, k * 2, none⟩ (.slice xa P.1.length xc)).setCell ⟨g, k * 2 + 1, none⟩ (.slice ya P.2.length yc)) (.slice (some ⟨g, 0, none⟩) T.length ccap) (T.set k P)) := hox.set k hkl _ _ P HPK3.out HPV3.out
                  clear hox hfz hke
                  go_wp2_with fail
                  go_roundw
                  case rel =>
                    first
                      | exact ⟨m + 1, T.set k P, by omega, by omega, by go_num, HN.out, by simp; omega, by simpa using HSET.out, grown_setNew (grown_setNew hgcd _ hbg _ _) _ hbg _ _⟩
                      | ((repeat apply Exists.intro); refine ⟨⟨m + 1, T.set k P, by omega, by omega, ?_, HN.out, by simp; omega, by simpa using HSET.out, grown_setNew (grown_setNew hgcd _ hbg _ _) _ hbg _ _⟩, rfl⟩; go_num)
                  case measure => simp [intOf]; omega
                | false =>
                  have HN : Hid (mkT (l.take (m + 1)) = T.take k ++ ([P] ++ T.drop k)) := by
                    show _ = _
                    rw [HT2.out, HPUT.out, if_neg]
                    intro h
                    have := HY.out
                    rw [decide_eq_true h.1, decide_eq_true h.2] at this
                    simp at this
                  have hszx := hgcd.size
                  have hka : (T.take k).length = k := by simp; omega
                  have S1 : Hid (PartsIs w.heap.size wx (.slice ca k ccap) (T.take k)) := HOX3.out.takes k hk
                  have hox := HOX3.out
                  rcases hox.cases with ⟨e, e0⟩ | ⟨g, cap', e, hbg, hglt, hcl, hcm, hfz⟩
                  · simp only [Value.slice.injEq] at e
                    obtain ⟨rfl, hT0, rfl⟩ := e
                    subst e0
                    obtain rfl : k = 0 := by simpa using hk
                    clear hox
                    have HN2 : Hid (mkT (l.take (m + 1)) = [P]) := by show _ = _; rw [HN.out]; rfl
                    go_upto_region 13 with (at_builtin; refine wpList_append_plistQ rfl _ _ rfl wx.heap.size w.heap.size hszx (.slice none 0 0) [] rfl (ownQ_nil _ _ _) none 0 0 [] rfl S1.out (by simp) (Nat.le_refl _) ?_; intro v1 w1 ho1 hg1)
                    rw [List.nil_append] at ho1
                    have hga : wx.grownBy w1 none := hg1
                    have c9 := hga.cell c7 (by simp)
                    have c10 := hga.cell c8 (by simp)
                    have HK1 : Hid (PartIs w.heap.size w1 (.slice xa P.1.length xc) P.1) := HPK3.out.kept hga (.inl rfl)
                    have HV1 : Hid (PartIs w.heap.size w1 (.slice ya P.2.length yc) P.2) := HPV3.out.kept hga (.inl rfl)
                    have hsz1 := hga.size
                    obtain ⟨a1, cap1, rfl⟩ := ho1.shape
                    go_upto_region 14 with (at_builtin; refine wpList_append_pairQ (w0 := w1) rfl _ _ rfl wx.heap.size w.heap.size hszx _ [] rfl ho1 _ _ P HK1.out HV1.out rfl w1.heap.size rfl rfl (by simp; try omega) hsz1 ?_; intro v2 w2 ho2 hg2)
                    have hgb : wx.grownBy w2 none := grown_ownQ (grown_alloc hga _) (ho1.alloc _) (Nat.le_refl _) hg2
                    have hsz2 := hgb.size
                    obtain ⟨a2, cap2, rfl⟩ := ho2.shape
                    clear c7 c8 c9 c10 ho1 hg1 hg2
                    have S3 : Hid (PartsIs w.heap.size w2 (.slice none 0 0) []) := (OwnP.takes (ownP_nil w.heap.size w2) 0 (by simp))
                    go_wp2_with (at_builtin; refine wpList_append_plistQ rfl _ _ rfl wx.heap.size w.heap.size hszx _ ([] ++ [P]) rfl ho2 none 0 0 [] rfl S3.out (by simp) hsz2 ?_; intro v3 w3 ho3 hg3)
                    have hgw3 : w.grownBy w3 none := grown_ownQ (grown_trans hgcd hgb) ho2 hszx hg3
                    rw [List.append_nil, List.nil_append] at ho3
                    go_roundw
                    case rel =>
                      first
                        | exact ⟨m + 1, [P], by omega, by omega, by go_num, HN2.out, by simp, ho3.p hszx, hgw3⟩
                        | ((repeat apply Exists.intro); refine ⟨⟨m + 1, [P], by omega, by omega, ?_, HN2.out, by simp, ho3.p hszx, hgw3⟩, rfl⟩; go_num)
                    case measure => simp [intOf]; omega
                  · simp only [Value.slice.injEq] at e
                    obtain ⟨rfl, _, rfl⟩ := e
                    clear hox hfz
                    have i9 : (k : Int) ≤ (ccap : Int) := by omega
                    have i8 : (k : Int) ≤ (T.length : Int) := by omega
                    go_upto_region 13 with (at_builtin; refine wpList_append_plistQ rfl _ _ rfl wx.heap.size w.heap.size hszx (.slice none 0 0) [] rfl (ownQ_nil _ _ _) (some ⟨g, 0, none⟩) k ccap (T.take k) rfl S1.out (by simp; omega) (Nat.le_refl _) ?_; intro v1 w1 ho1 hg1)
                    rw [List.nil_append] at ho1
                    have hga : wx.grownBy w1 none := hg1
                    have c9 := hga.cell c7 (by simp)
                    have c10 := hga.cell c8 (by simp)
                    have HK1 : Hid (PartIs w.heap.size w1 (.slice xa P.1.length xc) P.1) := HPK3.out.kept hga (.inl rfl)
                    have HV1 : Hid (PartIs w.heap.size w1 (.slice ya P.2.length yc) P.2) := HPV3.out.kept hga (.inl rfl)
                    have hsz1 := hga.size
                    obtain ⟨a1, cap1, rfl⟩ := ho1.shape
                    go_upto_region 14 with (at_builtin; refine wpList_append_pairQ (w0 := w1) rfl _ _ rfl wx.heap.size w.heap.size hszx _ (T.take k) rfl ho1 _ _ P HK1.out HV1.out rfl w1.heap.size rfl rfl (by simp; try omega) hsz1 ?_; intro v2 w2 ho2 hg2)
                    have hgb : wx.grownBy w2 none := grown_ownQ (grown_alloc hga _) (ho1.alloc _) (Nat.le_refl _) hg2
                    have hsz2 := hgb.size
                    obtain ⟨a2, cap2, rfl⟩ := ho2.shape
                    clear c7 c8 c9 c10 ho1 hg1 hg2
                    have hox2 := HOX3.out.grownNone hgb
                    have HO2 : Hid (OwnP w.heap.size w2 (.slice (some ⟨g, 0, none⟩) T.length ccap) T) := hox2
                    clear hox2
                    by_cases hck : k < ccap
                    · have S3 : Hid (PartsIs w.heap.size w2 (.slice (some ⟨g, k * 2, none⟩) (T.length - k) (ccap - k)) (T.drop k)) := HO2.out.drops k hk (k * 2) (ccap - k) rfl
                      have hck2 : ¬ ccap - k = 0 := by omega
                      have hck3 : ¬ ccap ≤ k := by omega
                      have hck4 : ¬ (ccap : Int) ≤ (k : Int) := by omega
                      clear HOX3 HO2 S1
                      go_wp2_with (at_builtin; refine wpList_append_plistQ rfl _ _ rfl wx.heap.size w.heap.size hszx _ (T.take k ++ [P]) rfl ho2 (some ⟨g, k * 2, none⟩) (T.length - k) (ccap - k) (T.drop k) rfl S3.out (by simp; omega) hsz2 ?_; intro v3 w3 ho3 hg3)
                      have hgw3 : w.grownBy w3 none := grown_ownQ (grown_trans hgcd hgb) ho2 hszx hg3
                      rw [List.append_assoc] at ho3
                      go_roundw
                      case rel =>
                        first
                          | exact ⟨m + 1, T.take k ++ ([P] ++ T.drop k), by omega, by omega, by go_num, HN.out, by simp; omega, ho3.p hszx, hgw3⟩
                          | ((repeat apply Exists.intro); refine ⟨⟨m + 1, T.take k ++ ([P] ++ T.drop k), by omega, by omega, ?_, HN.out, by simp; omega, ho3.p hszx, hgw3⟩, rfl⟩; go_num)
                      case measure => simp [intOf]; omega
                    · have hck1 : ccap = k := by omega
                      have hd : T.drop k = [] := List.drop_eq_nil_of_le (by omega)
                      have S3 : Hid (∀ n c, n = T.length - k → PartsIs w.heap.size w2 (.slice (some ⟨g, 0, none⟩) n c) (T.drop k)) := fun n c hn => ⟨[], some ⟨g, 0, none⟩, c, by rw [hn]; simp, by rw [hd]; rfl, by rw [hd]; intro i hi; simp at hi, .inr ⟨_, rfl, by simp [flat]⟩⟩
                      have hck2 : ccap - k = 0 := by omega
                      clear HOX3 HO2 S1 hd
                      go_wp2_with (at_builtin; refine wpList_append_plistQ rfl _ _ rfl wx.heap.size w.heap.size hszx _ (T.take k ++ [P]) rfl ho2 (some ⟨g, 0, none⟩) _ _ (T.drop k) rfl (S3.out _ _ (by omega)) (by simp; omega) hsz2 ?_; intro v3 w3 ho3 hg3)
                      have hgw3 : w.grownBy w3 none := grown_ownQ (grown_trans hgcd hgb) ho2 hszx hg3
                      rw [List.append_assoc] at ho3
                      go_roundw
                      case rel =>
                        first
                          | exact ⟨m + 1, T.take k ++ ([P] ++ T.drop k), by omega, by omega, by go_num, HN.out, by simp; omega, ho3.p hszx, hgw3⟩
                          | ((repeat apply Exists.intro); refine ⟨⟨m + 1, T.take k ++ ([P] ++ T.drop k), by omega, by omega, ?_, HN.out, by simp; omega, ho3.p hszx, hgw3⟩, rfl⟩; go_num)
                      case measure => simp [intOf]; omega
    · have HE : Hid (mkT (l.take n) = T) := by
        show _ = _
        rw [← hT]
        by_cases h : m < l.length
        · have : m = n := by omega
          rw [this]
        · have : m = l.length := by omega
          rw [this, List.take_length, List.take_of_length_le (by omega)]
      obtain ⟨ca, ccap, rfl⟩ := hown.shape
      by_cases h : m < l.length
      · have t1 : (m : Int) < (l.length : Int) := by omega
        have t2 : ¬ (m : Int) < (n : Int) := by omega
        go_wp2
        go_ret
        exact ⟨_, rfl, by rw [HE.out]; exact hown, hg⟩
      · have t1 : ¬ (m : Int) < (l.length : Int) := by omega
        go_wp2
        go_ret
        exact ⟨_, rfl, by rw [HE.out]; exact hown, hg⟩
end Go.Proofs.YtedmhejnbapklaaDoor
