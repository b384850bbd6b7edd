/-
  The walks of the document's answer to P3.4 and P3.5: DeletedOf, RangeOf.
-/
import Derived.Test.YtpmfbfflacbmjaaRPairsKey
import Derived.Test.YtpmfbfflacbmjaaPart14
import Derived.Test.YtpmfbfflacbmjaaRCopy
import Derived.Test.YtpmfbfflacbmjaaPart1
namespace Go.Proofs.Ytpmfbfflacbmjaa
open Go.RowKit
set_option maxRecDepth 100000 in
set_option maxHeartbeats 1000000 in
theorem deletedOf_any (w : World) (v u : Value) (l : PL) (k : List UInt8) (hv : PairsIs w v l) (hu : SliceIs w u k) :
    Calls Try.prog 63 #[v, u] w fun e w' => ∃ x, e = .returned (.tuple #[x, .int .i64 (getE l k)]) ∧ PairsIs w' x (delF l k) ∧ w.grownBy w' none := by
  obtain ⟨a, cap, rfl⟩ := hv.shape
  obtain ⟨ka, kcap, rfl⟩ := hu.shape
  have PK : Hid (Calls Try.prog 94 #[.slice a l.length cap, .slice ka k.length kcap] w fun e w' => e = .returned (.int .i64 (getE l k)) ∧ w.grownBy w' none) :=
    pairsAndKey_any w (.slice a l.length cap) l ka k.length kcap hv
  by_cases hE : getE l k = 0
  · rw [hE] at PK ⊢
    rw [delF, if_pos hE]
    have HT : Hid (Tree l) := getE_tree hE
    have hroom := HT.out.room
    clear hE
    go_enter Try.func63, Try.ntmps63
    go_wp2_with fail
    refine PK.out.mono ?_
    rintro e w1 ⟨rfl, hg1⟩
    go_wp2_with fail
    go_loopw [7, 8] (fun cv i wr => ∃ m : Nat, m ≤ l.length ∧ i = .int .i64 (m : Int) ∧ OwnP w.heap.size wr cv (delL (l.take m) k) ∧ w.grownBy wr none) (fun _ i _ => l.length - (intOf i).toNat)
    case atStart => exact ⟨0, by omega, rfl, ownP_nil _ _, hg1⟩
    case round =>
      clear hg1
      obtain ⟨m, hm, rfl, hown, hg⟩ := hrel
      by_cases hlt : m < l.length
      · obtain ⟨b, o, rfl, hat⟩ := hv.at m hlt
        obtain ⟨vk, vv, c1, c2, s1, s2⟩ := hat.grown hg
        have hD := del_take l k m hlt
        have hTl := Nat.le_trans (del_len (l.take m) k) (List.length_take_le m l)
        have hpl := HT.out.pairs l[m] (List.getElem_mem hlt)
        rw [show l[m] = l.getD m ([], []) by simp [hlt]] at hpl
        generalize l.getD m ([], []) = P at *
        generalize delL (l.take m) k = T at *
        have CP : Hid (Calls Try.prog 95 #[.agg #[vk, vv]] wr fun e w' => ∃ vk vv, e = .returned (.agg #[vk, vv]) ∧ Own wr.heap.size w' vk P.1 ∧ Own wr.heap.size w' vv P.2 ∧ wr.grownBy w' none) := rpairCopy_any wr _ P ⟨vk, vv, rfl, s1, s2⟩ (by omega) (by omega)
        have SB : Hid (Calls Try.prog 55 #[vk, .slice ka k.length kcap] wr fun e w' => e = .returned (.bool (decide (P.1 = k))) ∧ w' = wr) := rsame_any wr _ _ _ _ s1 (hu.grown hg)
        obtain ⟨ak, ck, rfl⟩ := s1.shape
        obtain ⟨av, cv, rfl⟩ := s2.shape
        obtain ⟨ca, ccap, rfl⟩ := hown.shape
        clear hat s1 s2 hpl
        have i1 : (m : Int) < (l.length : Int) := by omega
        by_cases he : P.1 = k
        · rw [decide_eq_true he] at SB
          rw [if_pos he] at hD
          have HD : Hid (delL (l.take (m + 1)) k = T) := hD
          clear hD he
          go_wp2_with fail
          refine SB.out.mono ?_
          rintro e w2 ⟨rfl, rfl⟩
          go_wp2_with fail
          go_roundw
          case rel =>
            first
              | exact ⟨m + 1, by omega, by go_num, by rw [HD.out]; exact hown, hg⟩
              | ((repeat apply Exists.intro); refine ⟨⟨m + 1, by omega, ?_, by rw [HD.out]; exact hown, hg⟩, rfl⟩; go_num)
          case measure => simp [intOf]; omega
        · rw [decide_eq_false he] at SB
          rw [if_neg he] at hD
          have HD : Hid (delL (l.take (m + 1)) k = T ++ [P]) := hD
          clear hD he
          go_wp2_with fail
          refine SB.out.mono ?_
          rintro e w2 ⟨rfl, rfl⟩
          go_wp2_with fail
          refine CP.out.mono ?_
          rintro e w3 ⟨xk, xv, rfl, ok, ov, hg3⟩
          obtain ⟨xa1, xc1, rfl⟩ := ok.shape
          obtain ⟨ya1, yc1, rfl⟩ := ov.shape
          clear c1 c2 CP
          have hsz := (grown_trans hg hg3).size
          have hown1 : OwnP w.heap.size (w3.alloc (.cells #[.slice xa1 P.1.length xc1, .slice ya1 P.2.length yc1] 85)) (.slice ca T.length ccap) T := (hown.grownNone hg3).alloc _
          have HK : Hid (PartIs w.heap.size (w3.alloc (.cells #[.slice xa1 P.1.length xc1, .slice ya1 P.2.length yc1] 85)) (.slice xa1 P.1.length xc1) P.1) := (ok.alloc _).part
          have HV : Hid (PartIs w.heap.size (w3.alloc (.cells #[.slice xa1 P.1.length xc1, .slice ya1 P.2.length yc1] 85)) (.slice ya1 P.2.length yc1) P.2) := (ov.alloc _).part
          clear ok ov hown
          go_wp2_with (at_builtin; refine wpList_append_pair (w0 := w3.alloc (.cells #[.slice xa1 P.1.length xc1, .slice ya1 P.2.length yc1] 85)) rfl _ _ rfl w.heap.size (.slice ca T.length ccap) T rfl hown1 _ _ P HK.out HV.out rfl (w3.heap.size + 1) rfl (by simp) (by omega) (by simp; omega) ?_; intro v2 w4 ho2 hg2)
          have hgw := grown_ownP (grown_alloc (grown_alloc (grown_trans hg hg3) _) _) (hown1.alloc _) hg2
          go_roundw
          case rel => exact ⟨m + 1, by omega, by go_num, by rw [HD.out]; exact ho2, hgw⟩
          case measure => simp [intOf]; omega
      · obtain rfl : m = l.length := by omega
        rw [List.take_length] at hown
        obtain ⟨pa, pcap, rfl⟩ := hown.shape
        go_wp2
        go_ret2
        exact ⟨_, rfl, hown.list, hg⟩
  · rw [delF, if_neg hE]
    generalize getE l k = z at *
    have hz : (z != 0) = true := by simpa using hE
    go_enter Try.func63, Try.ntmps63
    go_wp2_with fail
    refine PK.out.mono ?_
    rintro e w1 ⟨rfl, hg1⟩
    go_wp2
    go_ret2
    exact ⟨_, rfl, pairsIs_nil _, hg1⟩
set_option maxRecDepth 100000 in
set_option maxHeartbeats 1000000 in
theorem rangeOf_any (w : World) (v u x : Value) (l : PL) (f t : List UInt8) (hv : PairsIs w v l) (hu : SliceIs w u f) (hx : SliceIs w x t) :
    Calls Try.prog 93 #[v, u, x] w fun e w' => ∃ y, e = .returned (.tuple #[y, .int .i64 (rangeE l f t)]) ∧ PairsIs w' y (rangeF l f t) ∧ w.grownBy w' none := by
  obtain ⟨a, cap, rfl⟩ := hv.shape
  obtain ⟨ka, kcap, rfl⟩ := hu.shape
  obtain ⟨xa, xcap, rfl⟩ := hx.shape
  have PK : Hid (Calls Try.prog 94 #[.slice a l.length cap, .slice ka f.length kcap] w fun e w' => e = .returned (.int .i64 (getE l f)) ∧ w.grownBy w' none) :=
    pairsAndKey_any w (.slice a l.length cap) l ka f.length kcap hv
  by_cases hE : getE l f = 0
  · by_cases hF : rangeE l f t = 0
    · have hK : keyFaultF t.length = 0 := by rw [rangeE, if_pos hE] at hF; exact hF
      rw [hE] at PK
      rw [rangeF, if_pos hF, hF]
      have HT : Hid (Tree l) := getE_tree hE
      have hroom := HT.out.room
      clear hE hF
      go_enter Try.func93, Try.ntmps93
      go_wp2_with fail
      refine PK.out.mono ?_
      rintro e w1 ⟨rfl, hg1⟩
      go_wp2_with fail
      refine (keyFault_any _ _ _ _).mono ?_
      rintro e w2 ⟨rfl, rfl⟩
      rw [hK]
      go_wp2_with fail
      go_loopw [9, 10] (fun cv i wr => ∃ m : Nat, m ≤ l.length ∧ i = .int .i64 (m : Int) ∧ OwnP w.heap.size wr cv (rangeL (l.take m) f t) ∧ w.grownBy wr none) (fun _ i _ => l.length - (intOf i).toNat)
      case atStart => exact ⟨0, by omega, rfl, ownP_nil _ _, hg1⟩
      case round =>
        clear hg1
        obtain ⟨m, hm, rfl, hown, hg⟩ := hrel
        by_cases hlt : m < l.length
        · obtain ⟨b, o, rfl, hat⟩ := hv.at m hlt
          obtain ⟨vk, vv, c1, c2, s1, s2⟩ := hat.grown hg
          have hD := range_take l f t m hlt
          have hTl := Nat.le_trans (range_len (l.take m) f t) (List.length_take_le m l)
          have hpl := HT.out.pairs l[m] (List.getElem_mem hlt)
          rw [show l[m] = l.getD m ([], []) by simp [hlt]] at hpl
          generalize l.getD m ([], []) = P at *
          generalize rangeL (l.take m) f t = T at *
          have CP : Hid (Calls Try.prog 95 #[.agg #[vk, vv]] wr fun e w' => ∃ vk vv, e = .returned (.agg #[vk, vv]) ∧ Own wr.heap.size w' vk P.1 ∧ Own wr.heap.size w' vv P.2 ∧ wr.grownBy w' none) := rpairCopy_any wr _ P ⟨vk, vv, rfl, s1, s2⟩ (by omega) (by omega)
          have B1 : Hid (Calls Try.prog 62 #[vk, .slice ka f.length kcap] wr fun e w' => e = .returned (.bool (klt P.1 f)) ∧ w' = wr) := before_any wr _ _ _ _ s1 (hu.grown hg)
          have B2 : Hid (Calls Try.prog 62 #[.slice xa t.length xcap, vk] wr fun e w' => e = .returned (.bool (klt t P.1)) ∧ w' = wr) := before_any wr _ _ _ _ (hx.grown hg) s1
          obtain ⟨ak, ck, rfl⟩ := s1.shape
          obtain ⟨av, cv, rfl⟩ := s2.shape
          obtain ⟨ca, ccap, rfl⟩ := hown.shape
          clear hat s1 s2 hpl
          have i1 : (m : Int) < (l.length : Int) := by omega
          cases h1 : klt P.1 f with
          | true =>
            rw [h1] at B1 hD
            have HD : Hid (rangeL (l.take (m + 1)) f t = T) := by
                show _ = _
                simpa using hD
            clear hD
            go_wp2_with fail
            refine B1.out.mono ?_
            rintro e w2 ⟨rfl, rfl⟩
            go_wp2_with fail
            go_roundw
            case rel =>
              first
                | exact ⟨m + 1, by omega, by go_num, by rw [HD.out]; exact hown, hg⟩
                | ((repeat apply Exists.intro); refine ⟨⟨m + 1, by omega, ?_, by rw [HD.out]; exact hown, hg⟩, rfl⟩; go_num)
            case measure => simp [intOf]; omega
          | false =>
            rw [h1] at B1 hD
            cases h2 : klt t P.1 with
            | true =>
              rw [h2] at B2 hD
              have HD : Hid (rangeL (l.take (m + 1)) f t = T) := by
                show _ = _
                simpa using hD
              clear hD
              go_wp2_with fail
              refine B1.out.mono ?_
              rintro e w2 ⟨rfl, rfl⟩
              go_wp2_with fail
              refine B2.out.mono ?_
              rintro e w2 ⟨rfl, rfl⟩
              go_wp2_with fail
              go_roundw
              case rel =>
                first
                  | exact ⟨m + 1, by omega, by go_num, by rw [HD.out]; exact hown, hg⟩
                  | ((repeat apply Exists.intro); refine ⟨⟨m + 1, by omega, ?_, by rw [HD.out]; exact hown, hg⟩, rfl⟩; go_num)
              case measure => simp [intOf]; omega
            | false =>
              rw [h2] at B2 hD
              have HD : Hid (rangeL (l.take (m + 1)) f t = T ++ [P]) := by
                show _ = _
                simpa using hD
              clear hD
              go_wp2_with fail
              refine B1.out.mono ?_
              rintro e w2 ⟨rfl, rfl⟩
              go_wp2_with fail
              refine B2.out.mono ?_
              rintro e w2 ⟨rfl, rfl⟩
              go_wp2_with fail
              refine CP.out.mono ?_
              rintro e w3 ⟨xk, xv, rfl, ok, ov, hg3⟩
              obtain ⟨xa1, xc1, rfl⟩ := ok.shape
              obtain ⟨ya1, yc1, rfl⟩ := ov.shape
              clear c1 c2 CP
              have hsz := (grown_trans hg hg3).size
              have hown1 : OwnP w.heap.size (w3.alloc (.cells #[.slice xa1 P.1.length xc1, .slice ya1 P.2.length yc1] 85)) (.slice ca T.length ccap) T := (hown.grownNone hg3).alloc _
              have HK : Hid (PartIs w.heap.size (w3.alloc (.cells #[.slice xa1 P.1.length xc1, .slice ya1 P.2.length yc1] 85)) (.slice xa1 P.1.length xc1) P.1) := (ok.alloc _).part
              have HV : Hid (PartIs w.heap.size (w3.alloc (.cells #[.slice xa1 P.1.length xc1, .slice ya1 P.2.length yc1] 85)) (.slice ya1 P.2.length yc1) P.2) := (ov.alloc _).part
              clear ok ov hown
              go_wp2_with (at_builtin; refine wpList_append_pair (w0 := w3.alloc (.cells #[.slice xa1 P.1.length xc1, .slice ya1 P.2.length yc1] 85)) rfl _ _ rfl w.heap.size (.slice ca T.length ccap) T rfl hown1 _ _ P HK.out HV.out rfl (w3.heap.size + 1) rfl (by simp) (by omega) (by simp; omega) ?_; intro v2 w4 ho2 hg2)
              have hgw := grown_ownP (grown_alloc (grown_alloc (grown_trans hg hg3) _) _) (hown1.alloc _) hg2
              go_roundw
              case rel => exact ⟨m + 1, by omega, by go_num, by rw [HD.out]; exact ho2, hgw⟩
              case measure => simp [intOf]; omega
        · obtain rfl : m = l.length := by omega
          rw [List.take_length] at hown
          obtain ⟨pa, pcap, rfl⟩ := hown.shape
          go_wp2
          go_ret2
          exact ⟨_, rfl, hown.list, hg⟩
    · have hK : rangeE l f t = keyFaultF t.length := by rw [rangeE, if_pos hE]
      rw [rangeF, if_neg hF]
      rw [hK] at hF ⊢
      rw [hE] at PK
      have hz : (keyFaultF t.length != 0) = true := by simpa using hF
      clear hE hF hK
      go_enter Try.func93, Try.ntmps93
      go_wp2_with fail
      refine PK.out.mono ?_
      rintro e w1 ⟨rfl, hg1⟩
      go_wp2_with fail
      refine (keyFault_any _ _ _ _).mono ?_
      rintro e w2 ⟨rfl, rfl⟩
      go_wp2
      go_ret2
      exact ⟨_, rfl, pairsIs_nil _, hg1⟩
  · have hK : rangeE l f t = getE l f := by rw [rangeE, if_neg hE]
    rw [rangeF, if_neg (by rw [hK]; exact hE), hK]
    generalize getE l f = z at *
    have hz : (z != 0) = true := by simpa using hE
    have hz2 : (z == 0) = false := by simpa using hE
    clear hK
    go_enter Try.func93, Try.ntmps93
    go_wp2_with fail
    refine PK.out.mono ?_
    rintro e w1 ⟨rfl, hg1⟩
    go_wp2
    go_ret2
    exact ⟨_, rfl, pairsIs_nil _, hg1⟩
end Go.Proofs.Ytpmfbfflacbmjaa
