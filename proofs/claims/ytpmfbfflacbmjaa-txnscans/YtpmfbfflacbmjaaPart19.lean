/-
  Texts of this proof, joined: RDel, RPut.
-/
import Derived.Test.YtpmfbfflacbmjaaRPairsKey
import Derived.Test.YtpmfbfflacbmjaaPart17
import Derived.Test.YtpmfbfflacbmjaaRCopy
import Derived.Test.YtpmfbfflacbmjaaPart1
import Derived.Test.YtpmfbfflacbmjaaPart16
/-
  The walks of the document's answer to P3.4 and P3.5: DeletedOf, RangeOf.
-/
namespace Go.Proofs.Ytpmfbfflacbmjaa
open Go.RowKit
set_option maxRecDepth 100000 in
set_option maxHeartbeats 1000000 in
theorem deletedOf_any (w : World) (v u : Value) (l : PL) (k : List UInt8) (hv : PairsIs w v l) (hu : SliceIs w u k) :
    Calls Try.prog 63 #[v, u] w fun e w' => ∃ x, e = .returned (.tuple #[x, .int .i64 (getE l k)]) ∧ PairsIs w' x (delF l k) ∧ w.grownBy w' none := by
  obtain ⟨a, cap, rfl⟩ := hv.shape
  obtain ⟨ka, kcap, rfl⟩ := hu.shape
  have PK : Hid (Calls Try.prog 94 #[.slice a l.length cap, .slice ka k.length kcap] w fun e w' => e = .returned (.int .i64 (getE l k)) ∧ w.grownBy w' none) :=
    pairsAndKey_any w (.slice a l.length cap) l ka k.length kcap hv
  by_cases hE : getE l k = 0
  · rw [hE] at PK ⊢
    rw [delF, if_pos hE]
    have HT : Hid (Tree l) := getE_tree hE
    have hroom := HT.out.room
    clear hE
    go_enter Try.func63, Try.ntmps63
    go_wp2_with fail
    refine PK.out.mono ?_
    rintro e w1 ⟨rfl, hg1⟩
    go_wp2_with fail
    go_loopw [7, 8] (fun cv i wr => ∃ m : Nat, m ≤ l.length ∧ i = .int .i64 (m : Int) ∧ OwnP w.heap.size wr cv (delL (l.take m) k) ∧ w.grownBy wr none) (fun _ i _ => l.length - (intOf i).toNat)
    case atStart => exact ⟨0, by omega, rfl, ownP_nil _ _, hg1⟩
    case round =>
      clear hg1
      obtain ⟨m, hm, rfl, hown, hg⟩ := hrel
      by_cases hlt : m < l.length
      · obtain ⟨b, o, rfl, hat⟩ := hv.at m hlt
        obtain ⟨vk, vv, c1, c2, s1, s2⟩ := hat.grown hg
        have hD := del_take l k m hlt
        have hTl := Nat.le_trans (del_len (l.take m) k) (List.length_take_le m l)
        have hpl := HT.out.pairs l[m] (List.getElem_mem hlt)
        rw [show l[m] = l.getD m ([], []) by simp [hlt]] at hpl
        generalize l.getD m ([], []) = P at *
        generalize delL (l.take m) k = T at *
        have CP : Hid (Calls Try.prog 95 #[.agg #[vk, vv]] wr fun e w' => ∃ vk vv, e = .returned (.agg #[vk, vv]) ∧ Own wr.heap.size w' vk P.1 ∧ Own wr.heap.size w' vv P.2 ∧ wr.grownBy w' none) := rpairCopy_any wr _ P ⟨vk, vv, rfl, s1, s2⟩ (by omega) (by omega)
        have SB : Hid (Calls Try.prog 55 #[vk, .slice ka k.length kcap] wr fun e w' => e = .returned (.bool (decide (P.1 = k))) ∧ w' = wr) := rsame_any wr _ _ _ _ s1 (hu.grown hg)
        obtain ⟨ak, ck, rfl⟩ := s1.shape
        obtain ⟨av, cv, rfl⟩ := s2.shape
        obtain ⟨ca, ccap, rfl⟩ := hown.shape
        clear hat s1 s2 hpl
        have i1 : (m : Int) < (l.length : Int) := by omega
        by_cases he : P.1 = k
        · rw [decide_eq_true he] at SB
          rw [if_pos he] at hD
          have HD : Hid (delL (l.take (m + 1)) k = T) := hD
          clear hD he
          go_wp2_with fail
          refine SB.out.mono ?_
          rintro e w2 ⟨rfl, rfl⟩
          go_wp2_with fail
          go_roundw
          case rel =>
            first
              | exact ⟨m + 1, by omega, by go_num, by rw [HD.out]; exact hown, hg⟩
              | ((repeat apply Exists.intro); refine ⟨⟨m + 1, by omega, ?_, by rw [HD.out]; exact hown, hg⟩, rfl⟩; go_num)
          case measure => simp [intOf]; omega
        · rw [decide_eq_false he] at SB
          rw [if_neg he] at hD
          have HD : Hid (delL (l.take (m + 1)) k = T ++ [P]) := hD
          clear hD he
          go_wp2_with fail
          refine SB.out.mono ?_
          rintro e w2 ⟨rfl, rfl⟩
          go_wp2_with fail
          refine CP.out.mono ?_
          rintro e w3 ⟨xk, xv, rfl, ok, ov, hg3⟩
          obtain ⟨xa1, xc1, rfl⟩ := ok.shape
          obtain ⟨ya1, yc1, rfl⟩ := ov.shape
          clear c1 c2 CP
          have hsz := (grown_trans hg hg3).size
          have hown1 : OwnP w.heap.size (w3.alloc (.cells #[.slice xa1 P.1.length xc1, .slice ya1 P.2.length yc1] 85)) (.slice ca T.length ccap) T := (hown.grownNone hg3).alloc _
          have HK : Hid (PartIs w.heap.size (w3.alloc (.cells #[.slice xa1 P.1.length xc1, .slice ya1 P.2.length yc1] 85)) (.slice xa1 P.1.length xc1) P.1) := (ok.alloc _).part
          have HV : Hid (PartIs w.heap.size (w3.alloc (.cells #[.slice xa1 P.1.length xc1, .slice ya1 P.2.length yc1] 85)) (.slice ya1 P.2.length yc1) P.2) := (ov.alloc _).part
          clear ok ov hown
          go_wp2_with (at_builtin; refine wpList_append_pair (w0 := w3.alloc (.cells #[.slice xa1 P.1.length xc1, .slice ya1 P.2.length yc1] 85)) rfl _ _ rfl w.heap.size (.slice ca T.length ccap) T rfl hown1 _ _ P HK.out HV.out rfl (w3.heap.size + 1) rfl (by simp) (by omega) (by simp; omega) ?_; intro v2 w4 ho2 hg2)
          have hgw := grown_ownP (grown_alloc (grown_alloc (grown_trans hg hg3) _) _) (hown1.alloc _) hg2
          go_roundw
          case rel => exact ⟨m + 1, by omega, by go_num, by rw [HD.out]; exact ho2, hgw⟩
          case measure => simp [intOf]; omega
      · obtain rfl : m = l.length := by omega
        rw [List.take_length] at hown
        obtain ⟨pa, pcap, rfl⟩ := hown.shape
        go_wp2
        go_ret2
        exact ⟨_, rfl, hown.list, hg⟩
  · rw [delF, if_neg hE]
    generalize getE l k = z at *
    have hz : (z != 0) = true := by simpa using hE
    go_enter Try.func63, Try.ntmps63
    go_wp2_with fail
    refine PK.out.mono ?_
    rintro e w1 ⟨rfl, hg1⟩
    go_wp2
    go_ret2
    exact ⟨_, rfl, pairsIs_nil _, hg1⟩
set_option maxRecDepth 100000 in
set_option maxHeartbeats 1000000 in
theorem rangeOf_any (w : World) (v u x : Value) (l : PL) (f t : List UInt8) (hv : PairsIs w v l) (hu : SliceIs w u f) (hx : SliceIs w x t) :
    Calls Try.prog 93 #[v, u, x] w fun e w' => ∃ y, e = .returned (.tuple #[y, .int .i64 (rangeE l f t)]) ∧ PairsIs w' y (rangeF l f t) ∧ w.grownBy w' none := by
  obtain ⟨a, cap, rfl⟩ := hv.shape
  obtain ⟨ka, kcap, rfl⟩ := hu.shape
  obtain ⟨xa, xcap, rfl⟩ := hx.shape
  have PK : Hid (Calls Try.prog 94 #[.slice a l.length cap, .slice ka f.length kcap] w fun e w' => e = .returned (.int .i64 (getE l f)) ∧ w.grownBy w' none) :=
    pairsAndKey_any w (.slice a l.length cap) l ka f.length kcap hv
  by_cases hE : getE l f = 0
  · by_cases hF : rangeE l f t = 0
    · have hK : keyFaultF t.length = 0 := by rw [rangeE, if_pos hE] at hF; exact hF
      rw [hE] at PK
      rw [rangeF, if_pos hF, hF]
      have HT : Hid (Tree l) := getE_tree hE
      have hroom := HT.out.room
      clear hE hF
      go_enter Try.func93, Try.ntmps93
      go_wp2_with fail
      refine PK.out.mono ?_
      rintro e w1 ⟨rfl, hg1⟩
      go_wp2_with fail
      refine (keyFault_any _ _ _ _).mono ?_
      rintro e w2 ⟨rfl, rfl⟩
      rw [hK]
      go_wp2_with fail
      go_loopw [9, 10] (fun cv i wr => ∃ m : Nat, m ≤ l.length ∧ i = .int .i64 (m : Int) ∧ OwnP w.heap.size wr cv (rangeL (l.take m) f t) ∧ w.grownBy wr none) (fun _ i _ => l.length - (intOf i).toNat)
      case atStart => exact ⟨0, by omega, rfl, ownP_nil _ _, hg1⟩
      case round =>
        clear hg1
        obtain ⟨m, hm, rfl, hown, hg⟩ := hrel
        by_cases hlt : m < l.length
        · obtain ⟨b, o, rfl, hat⟩ := hv.at m hlt
          obtain ⟨vk, vv, c1, c2, s1, s2⟩ := hat.grown hg
          have hD := range_take l f t m hlt
          have hTl := Nat.le_trans (range_len (l.take m) f t) (List.length_take_le m l)
          have hpl := HT.out.pairs l[m] (List.getElem_mem hlt)
          rw [show l[m] = l.getD m ([], []) by simp [hlt]] at hpl
          generalize l.getD m ([], []) = P at *
          generalize rangeL (l.take m) f t = T at *
          have CP : Hid (Calls Try.prog 95 #[.agg #[vk, vv]] wr fun e w' => ∃ vk vv, e = .returned (.agg #[vk, vv]) ∧ Own wr.heap.size w' vk P.1 ∧ Own wr.heap.size w' vv P.2 ∧ wr.grownBy w' none) := rpairCopy_any wr _ P ⟨vk, vv, rfl, s1, s2⟩ (by omega) (by omega)
          have B1 : Hid (Calls Try.prog 62 #[vk, .slice ka f.length kcap] wr fun e w' => e = .returned (.bool (klt P.1 f)) ∧ w' = wr) := before_any wr _ _ _ _ s1 (hu.grown hg)
          have B2 : Hid (Calls Try.prog 62 #[.slice xa t.length xcap, vk] wr fun e w' => e = .returned (.bool (klt t P.1)) ∧ w' = wr) := before_any wr _ _ _ _ (hx.grown hg) s1
          obtain ⟨ak, ck, rfl⟩ := s1.shape
          obtain ⟨av, cv, rfl⟩ := s2.shape
          obtain ⟨ca, ccap, rfl⟩ := hown.shape
          clear hat s1 s2 hpl
          have i1 : (m : Int) < (l.length : Int) := by omega
          cases h1 : klt P.1 f with
          | true =>
            rw [h1] at B1 hD
            have HD : Hid (rangeL (l.take (m + 1)) f t = T) := by
                show _ = _
                simpa using hD
            clear hD
            go_wp2_with fail
            refine B1.out.mono ?_
            rintro e w2 ⟨rfl, rfl⟩
            go_wp2_with fail
            go_roundw
            case rel =>
              first
                | exact ⟨m + 1, by omega, by go_num, by rw [HD.out]; exact hown, hg⟩
                | ((repeat apply Exists.intro); refine ⟨⟨m + 1, by omega, ?_, by rw [HD.out]; exact hown, hg⟩, rfl⟩; go_num)
            case measure => simp [intOf]; omega
          | false =>
            rw [h1] at B1 hD
            cases h2 : klt t P.1 with
            | true =>
              rw [h2] at B2 hD
              have HD : Hid (rangeL (l.take (m + 1)) f t = T) := by
                show _ = _
                simpa using hD
              clear hD
              go_wp2_with fail
              refine B1.out.mono ?_
              rintro e w2 ⟨rfl, rfl⟩
              go_wp2_with fail
              refine B2.out.mono ?_
              rintro e w2 ⟨rfl, rfl⟩
              go_wp2_with fail
              go_roundw
              case rel =>
                first
                  | exact ⟨m + 1, by omega, by go_num, by rw [HD.out]; exact hown, hg⟩
                  | ((repeat apply Exists.intro); refine ⟨⟨m + 1, by omega, ?_, by rw [HD.out]; exact hown, hg⟩, rfl⟩; go_num)
              case measure => simp [intOf]; omega
            | false =>
              rw [h2] at B2 hD
              have HD : Hid (rangeL (l.take (m + 1)) f t = T ++ [P]) := by
                show _ = _
                simpa using hD
              clear hD
              go_wp2_with fail
              refine B1.out.mono ?_
              rintro e w2 ⟨rfl, rfl⟩
              go_wp2_with fail
              refine B2.out.mono ?_
              rintro e w2 ⟨rfl, rfl⟩
              go_wp2_with fail
              refine CP.out.mono ?_
              rintro e w3 ⟨xk, xv, rfl, ok, ov, hg3⟩
              obtain ⟨xa1, xc1, rfl⟩ := ok.shape
              obtain ⟨ya1, yc1, rfl⟩ := ov.shape
              clear c1 c2 CP
              have hsz := (grown_trans hg hg3).size
              have hown1 : OwnP w.heap.size (w3.alloc (.cells #[.slice xa1 P.1.length xc1, .slice ya1 P.2.length yc1] 85)) (.slice ca T.length ccap) T := (hown.grownNone hg3).alloc _
              have HK : Hid (PartIs w.heap.size (w3.alloc (.cells #[.slice xa1 P.1.length xc1, .slice ya1 P.2.length yc1] 85)) (.slice xa1 P.1.length xc1) P.1) := (ok.alloc _).part
              have HV : Hid (PartIs w.heap.size (w3.alloc (.cells #[.slice xa1 P.1.length xc1, .slice ya1 P.2.length yc1] 85)) (.slice ya1 P.2.length yc1) P.2) := (ov.alloc _).part
              clear ok ov hown
              go_wp2_with (at_builtin; refine wpList_append_pair (w0 := w3.alloc (.cells #[.slice xa1 P.1.length xc1, .slice ya1 P.2.length yc1] 85)) rfl _ _ rfl w.heap.size (.slice ca T.length ccap) T rfl hown1 _ _ P HK.out HV.out rfl (w3.heap.size + 1) rfl (by simp) (by omega) (by simp; omega) ?_; intro v2 w4 ho2 hg2)
              have hgw := grown_ownP (grown_alloc (grown_alloc (grown_trans hg hg3) _) _) (hown1.alloc _) hg2
              go_roundw
              case rel => exact ⟨m + 1, by omega, by go_num, by rw [HD.out]; exact ho2, hgw⟩
              case measure => simp [intOf]; omega
        · obtain rfl : m = l.length := by omega
          rw [List.take_length] at hown
          obtain ⟨pa, pcap, rfl⟩ := hown.shape
          go_wp2
          go_ret2
          exact ⟨_, rfl, hown.list, hg⟩
    · have hK : rangeE l f t = keyFaultF t.length := by rw [rangeE, if_pos hE]
      rw [rangeF, if_neg hF]
      rw [hK] at hF ⊢
      rw [hE] at PK
      have hz : (keyFaultF t.length != 0) = true := by simpa using hF
      clear hE hF hK
      go_enter Try.func93, Try.ntmps93
      go_wp2_with fail
      refine PK.out.mono ?_
      rintro e w1 ⟨rfl, hg1⟩
      go_wp2_with fail
      refine (keyFault_any _ _ _ _).mono ?_
      rintro e w2 ⟨rfl, rfl⟩
      go_wp2
      go_ret2
      exact ⟨_, rfl, pairsIs_nil _, hg1⟩
  · have hK : rangeE l f t = getE l f := by rw [rangeE, if_neg hE]
    rw [rangeF, if_neg (by rw [hK]; exact hE), hK]
    generalize getE l f = z at *
    have hz : (z != 0) = true := by simpa using hE
    have hz2 : (z == 0) = false := by simpa using hE
    clear hK
    go_enter Try.func93, Try.ntmps93
    go_wp2_with fail
    refine PK.out.mono ?_
    rintro e w1 ⟨rfl, hg1⟩
    go_wp2
    go_ret2
    exact ⟨_, rfl, pairsIs_nil _, hg1⟩
end Go.Proofs.Ytpmfbfflacbmjaa

/-
  The walk of the document's answer to P3.3: PutOf.
-/
namespace Go.Proofs.Ytpmfbfflacbmjaa
open Go.RowKit
set_option maxRecDepth 100000 in
set_option maxHeartbeats 1000000 in
theorem putOf_any (w : World) (v u : Value) (l : PL) (p : Pr) (hv : PairsIs w v l) (hu : PairIs w u p) :
    Calls Try.prog 64 #[v, u] w fun e w' => ∃ x, e = .returned (.tuple #[x, .int .i64 (putE l p)]) ∧ PairsIs w' x (putF l p) ∧ w.grownBy w' none := by
  obtain ⟨a, cap, rfl⟩ := hv.shape
  obtain ⟨uk, uv, rfl, r1, r2⟩ := hu
  obtain ⟨ka, kc, rfl⟩ := r1.shape
  obtain ⟨va, vc, rfl⟩ := r2.shape
  obtain ⟨W0, hW0⟩ : ∃ W0 : World, W0 = w.alloc (.cells #[.slice ka p.1.length kc, .slice va p.2.length vc] 85) := ⟨_, rfl⟩
  have hgW : w.grownBy W0 none := by rw [hW0]; exact World.grownBy_alloc _ _ _
  have HW0 : Hid (W0 = w.alloc (.cells #[.slice ka p.1.length kc, .slice va p.2.length vc] 85)) := hW0
  have d1 : W0.cell? ⟨w.heap.size, 0, none⟩ = some (.slice ka p.1.length kc) := by rw [hW0]; simp
  have d2 : W0.cell? ⟨w.heap.size, 1, none⟩ = some (.slice va p.2.length vc) := by rw [hW0]; simp
  have PF : Hid (Calls Try.prog 96 #[.slice a l.length cap] W0 fun e w' => e = .returned (.int .i64 (pairsFaultF l)) ∧ W0.grownBy w' none) := pairsFault_any W0 _ l (hv.grown hgW)
  clear hW0
  by_cases h0 : pairsFaultF l = 0
  · rw [h0] at PF
    by_cases h1 : pairFaultF p = 0
    · have HT : Hid (Tree l) := (tree_iff l).1 h0
      have hroom := HT.out.room
      have hpp := (pairFault_iff p).1 h1
      have HE0 : Hid (putE l p = if 60 < (putL l p).length then 11 else 0) := by show _ = _; rw [putE, if_pos]; rw [putE0, if_pos h0]; exact h1
      go_enter Try.func64, Try.ntmps64
      go_wp2_with fail
      rw [← HW0.out]
      refine PF.out.mono ?_
      rintro e w1 ⟨rfl, hg1⟩
      have e1 := hg1.cell d1 (by simp)
      have e2 := hg1.cell d2 (by simp)
      go_wp2_with fail
      refine (rpairFault_any _ _ _ p _ _).mono ?_
      rintro e w2 ⟨rfl, hg2⟩
      rw [h1]
      have hg12 := grown_trans hg1 hg2
      clear e1 e2 hg1 hg2
      go_wp2_with fail
      go_loopw [7, 8, 9] (fun cv dv i wr => ∃ (m : Nat) (T : PL) (d : Bool), m ≤ l.length ∧ i = .int .i64 (m : Int) ∧ dv = .bool d ∧ (l.take m).foldl (putStep p) ([], false) = (T, d) ∧ OwnP W0.heap.size wr cv T ∧ W0.grownBy wr none ∧ T.length ≤ 2 * m) (fun _ _ i _ => l.length - (intOf i).toNat)
      case atStart => exact ⟨0, [], false, by omega, rfl, rfl, rfl, ownP_nil _ _, hg12, by simp⟩
      case round =>
        clear hg12
        obtain ⟨m, T, d, hm, rfl, rfl, hfold, hown, hg, hTl⟩ := hrel
        by_cases hlt : m < l.length
        · obtain ⟨b, o, rfl, hat⟩ := hv.at m hlt
          obtain ⟨vk, vv, c1, c2, s1, s2⟩ := hat.grown hgW
          have hF : (l.take (m + 1)).foldl (putStep p) ([], false) = putStep p (T, d) (l.getD m ([], [])) := by
            rw [List.take_succ_eq_append_getElem hlt, List.foldl_append, hfold]; simp [hlt]
          have hpl := HT.out.pairs l[m] (List.getElem_mem hlt)
          rw [show l[m] = l.getD m ([], []) by simp [hlt]] at hpl
          generalize l.getD m ([], []) = P at *
          have BE : Hid (∀ w', W0.grownBy w' none → Calls Try.prog 62 #[vk, .slice ka p.1.length kc] w' fun e w'' => e = .returned (.bool (klt P.1 p.1)) ∧ w'' = w') := fun w' hg => before_any w' _ _ _ _ (s1.grown hg) (r1.grown (grown_trans hgW hg))
          have SB : Hid (∀ w', W0.grownBy w' none → Calls Try.prog 55 #[vk, .slice ka p.1.length kc] w' fun e w'' => e = .returned (.bool (decide (P.1 = p.1))) ∧ w'' = w') := fun w' hg => rsame_any w' _ _ _ _ (s1.grown hg) (r1.grown (grown_trans hgW hg))
          have CQ : Hid (∀ w', W0.grownBy w' none → Calls Try.prog 95 #[.agg #[vk, vv]] w' fun e w'' => ∃ xk xv, e = .returned (.agg #[xk, xv]) ∧ Own w'.heap.size w'' xk P.1 ∧ Own w'.heap.size w'' xv P.2 ∧ w'.grownBy w'' none) := fun w' hg => rpairCopy_any w' _ P ⟨vk, vv, rfl, s1.grown hg, s2.grown hg⟩ (by omega) (by omega)
          have CP : Hid (∀ w', W0.grownBy w' none → Calls Try.prog 95 #[.agg #[.slice ka p.1.length kc, .slice va p.2.length vc]] w' fun e w'' => ∃ xk xv, e = .returned (.agg #[xk, xv]) ∧ Own w'.heap.size w'' xk p.1 ∧ Own w'.heap.size w'' xv p.2 ∧ w'.grownBy w'' none) := fun w' hg => rpairCopy_any w' _ p ⟨_, _, rfl, r1.grown (grown_trans hgW hg), r2.grown (grown_trans hgW hg)⟩ (by omega) (by omega)
          obtain ⟨ak, ck, rfl⟩ := s1.shape
          obtain ⟨av, cv, rfl⟩ := s2.shape
          obtain ⟨ca, ccap, rfl⟩ := hown.shape
          have e1 := hg.cell c1 (by simp)
          have e2 := hg.cell c2 (by simp)
          have f1 := hg.cell d1 (by simp)
          have f2 := hg.cell d2 (by simp)
          have HF : Hid ((l.take (m + 1)).foldl (putStep p) ([], false) = putStep p (T, d) P) := hF
          clear hat s1 s2 hpl hF hfold PF
          have i1 : (m : Int) < (l.length : Int) := by omega
          obtain ⟨z, hz⟩ : ∃ z : Bool, (!d && !klt P.1 p.1) = z := ⟨_, rfl⟩
          have HF2 : Hid ((l.take (m + 1)).foldl (putStep p) ([], false) = (if P.1 = p.1 then (if z = true then (T ++ [p], true) else (T, d)) else ((if z = true then (T ++ [p], true) else (T, d)).1 ++ [P], (if z = true then (T ++ [p], true) else (T, d)).2))) := by
            show _ = _
            rw [HF.out, ← hz]
            unfold putStep
            cases d <;> cases klt P.1 p.1 <;> simp
          clear HF
          go_upto_region 11 with fail
          go_cut [40] (fun s40 wx => s40 = .bool z ∧ ∃ n, wx = wr.drewN n)
          case first =>
            cases d with
            | true =>
              have hz' : z = false := by rw [← hz]; rfl
              subst hz'
              clear hz
              go_quiet (fail)
              go_wp2_with fail
              go_meet
              case rel => exact ⟨rfl, nq, rfl⟩
            | false =>
              have hz' : z = !klt P.1 p.1 := by rw [← hz]; rfl
              subst hz'
              clear hz
              go_quiet (first | (go_at_call 62; exact Calls.quiet_of_same (BE.out _ (grown_drewN hg _))))
              go_wp2_with fail
              go_meet
              case rel => exact ⟨rfl, nq, rfl⟩
          case rest =>
            obtain ⟨rfl, n1, rfl⟩ := hcut
            have hgd := grown_drewN hg n1
            have hownd := OwnP.grownNone hown (grown_drewN (grown_refl _ none) n1)
            have e1 := hgd.cell c1 (by simp)
            have e2 := hgd.cell c2 (by simp)
            have f1 := hgd.cell d1 (by simp)
            have f2 := hgd.cell d2 (by simp)
            generalize wr.drewN n1 = wa at *
            clear hg hown
            go_upto_if 40 with fail
            go_cut [7, 8] (fun cv dv wx => ∃ (T1 : PL) (d1 : Bool), dv = .bool d1 ∧ (if z = true then (T ++ [p], true) else (T, d)) = (T1, d1) ∧ T1.length ≤ T.length + 1 ∧ OwnP W0.heap.size wx cv T1 ∧ W0.grownBy wx none)
            case first =>
              cases z with
              | true =>
                go_wp2_with fail
                refine (CP.out _ hgd).mono ?_
                rintro e w3p ⟨xkp, xvp, rfl, okp, ovp, hg3p⟩
                obtain ⟨xap, xcp, rfl⟩ := okp.shape
                obtain ⟨yap, ycp, rfl⟩ := ovp.shape
                have hgnp := grown_trans hgd hg3p
                have hszp := hgnp.size
                have hown1p : OwnP W0.heap.size (w3p.alloc (.cells #[.slice xap p.1.length xcp, .slice yap p.2.length ycp] 85)) (.slice ca (T).length ccap) (T) := (OwnP.grownNone hownd hg3p).alloc _
                have HKp : Hid (PartIs W0.heap.size (w3p.alloc (.cells #[.slice xap p.1.length xcp, .slice yap p.2.length ycp] 85)) (.slice xap p.1.length xcp) p.1) := (okp.alloc _).part
                have HVp : Hid (PartIs W0.heap.size (w3p.alloc (.cells #[.slice xap p.1.length xcp, .slice yap p.2.length ycp] 85)) (.slice yap p.2.length ycp) p.2) := (ovp.alloc _).part
                clear okp ovp
                go_wp2_with (at_builtin; refine wpList_append_pair (w0 := w3p.alloc (.cells #[.slice xap p.1.length xcp, .slice yap p.2.length ycp] 85)) rfl _ _ rfl W0.heap.size (.slice ca (T).length ccap) (T) rfl hown1p _ _ p HKp.out HVp.out rfl (w3p.heap.size + 1) rfl (by simp) (by omega) (by simp; omega) ?_; intro v2p w4p ho2p hg2p)
                have hgwp : W0.grownBy w4p none := grown_ownP' (grown_alloc (grown_alloc hgnp _) _) (hown1p.alloc _) (Nat.le_refl _) hg2p
                go_meet
                case rel => exact ⟨T ++ [p], true, rfl, rfl, by simp, ho2p, hgwp⟩
              | false =>
                go_wp2_with fail
                go_meet
                case rel => exact ⟨T, d, rfl, rfl, by omega, hownd, hgd⟩
            case rest =>
              obtain ⟨T1, d3, rfl, hT1, hT1l, hown1, hg1⟩ := hcut
              rw [hT1] at HF2
              obtain ⟨ca1, ccap1, rfl⟩ := hown1.shape
              have g1 := hg1.cell c1 (by simp)
              have g2 := hg1.cell c2 (by simp)
              have k1 := hg1.cell d1 (by simp)
              clear e1 e2 f1 f2 hT1 hownd hgd
              by_cases he : P.1 = p.1
              · have HS : Hid ((l.take (m + 1)).foldl (putStep p) ([], false) = (T1, d3)) := by rw [if_pos he] at HF2; exact HF2
                have hs : true = decide (P.1 = p.1) := (decide_eq_true he).symm
                rw [← hs] at SB
                clear he hs HF2
                go_wp2_with fail
                go_quiet (first | (go_at_call 55; exact Calls.quiet_of_same (SB.out _ (grown_drewN hg1 _))))
                go_wp2_with fail
                go_roundw
                case rel =>
                  first
                    | exact ⟨m + 1, T1, d3, by omega, by go_num, rfl, HS.out, OwnP.grownNone hown1 (grown_drewN (grown_refl _ none) _), grown_drewN hg1 _, by omega⟩
                    | ((repeat apply Exists.intro); refine ⟨⟨m + 1, T1, d3, by omega, ?_, rfl, HS.out, OwnP.grownNone hown1 (grown_drewN (grown_refl _ none) _), grown_drewN hg1 _, by omega⟩, rfl⟩; go_num)
                case measure => simp [intOf]; omega
              · have HS : Hid ((l.take (m + 1)).foldl (putStep p) ([], false) = (T1 ++ [P], d3)) := by rw [if_neg he] at HF2; exact HF2
                have hs : false = decide (P.1 = p.1) := (decide_eq_false he).symm
                rw [← hs] at SB
                clear he hs HF2
                go_wp2_with fail
                go_quiet (first | (go_at_call 55; exact Calls.quiet_of_same (SB.out _ (grown_drewN hg1 _))))
                have hgq := grown_drewN hg1 nq
                have hownq := OwnP.grownNone hown1 (grown_drewN (grown_refl _ none) nq)
                have q1 := hgq.cell c1 (by simp)
                have q2 := hgq.cell c2 (by simp)
                generalize wc.drewN nq = wb at *
                clear hg1 hown1 g1 g2 k1
                go_wp2_with fail
                refine (CQ.out _ hgq).mono ?_
                rintro e w3q ⟨xkq, xvq, rfl, okq, ovq, hg3q⟩
                obtain ⟨xaq, xcq, rfl⟩ := okq.shape
                obtain ⟨yaq, ycq, rfl⟩ := ovq.shape
                have hgnq := grown_trans hgq hg3q
                have hszq := hgnq.size
                have hown1q : OwnP W0.heap.size (w3q.alloc (.cells #[.slice xaq P.1.length xcq, .slice yaq P.2.length ycq] 85)) (.slice ca1 (T1).length ccap1) (T1) := (OwnP.grownNone hownq hg3q).alloc _
                have HKq : Hid (PartIs W0.heap.size (w3q.alloc (.cells #[.slice xaq P.1.length xcq, .slice yaq P.2.length ycq] 85)) (.slice xaq P.1.length xcq) P.1) := (okq.alloc _).part
                have HVq : Hid (PartIs W0.heap.size (w3q.alloc (.cells #[.slice xaq P.1.length xcq, .slice yaq P.2.length ycq] 85)) (.slice yaq P.2.length ycq) P.2) := (ovq.alloc _).part
                clear okq ovq
                go_wp2_with (at_builtin; refine wpList_append_pair (w0 := w3q.alloc (.cells #[.slice xaq P.1.length xcq, .slice yaq P.2.length ycq] 85)) rfl _ _ rfl W0.heap.size (.slice ca1 (T1).length ccap1) (T1) rfl hown1q _ _ P HKq.out HVq.out rfl (w3q.heap.size + 1) rfl (by simp) (by omega) (by simp; omega) ?_; intro v2q w4q ho2q hg2q)
                have hgwq : W0.grownBy w4q none := grown_ownP' (grown_alloc (grown_alloc hgnq _) _) (hown1q.alloc _) (Nat.le_refl _) hg2q
                go_roundw
                case rel =>
                  first
                    | exact ⟨m + 1, T1 ++ [P], d3, by omega, by go_num, rfl, HS.out, ho2q, hgwq, by simp; omega⟩
                    | ((repeat apply Exists.intro); refine ⟨⟨m + 1, T1 ++ [P], d3, by omega, ?_, rfl, HS.out, ho2q, hgwq, by simp; omega⟩, rfl⟩; go_num)
                case measure => simp [intOf]; omega
        · obtain rfl : m = l.length := by omega
          rw [List.take_length] at hfold
          have hput := put_fold p l HT.out.rises []
          rw [hfold, List.nil_append] at hput
          have HPUT : Hid (putEnd p (T, d) = putL l p) := hput
          clear hput hfold
          have f1 := hg.cell d1 (by simp)
          have f2 := hg.cell d2 (by simp)
          obtain ⟨ca, ccap, rfl⟩ := hown.shape
          cases d with
          | true =>
            have HPL : Hid (T = putL l p) := HPUT.out
            by_cases hfull : 60 < T.length
            · have t9 : (T.length : Int) > 60 := by omega
              have HE : Hid (putE l p = 11) := by show _ = _; rw [HE0.out, ← HPL.out, if_pos hfull]
              have HE2 : Hid (putF l p = []) := by show _ = _; rw [putF, if_neg]; rw [HE.out]; decide
              go_wp2
              go_ret2
              exact ⟨_, by rw [HE.out]; rfl, by rw [HE2.out]; exact pairsIs_nil _, grown_trans hgW hg⟩
            · have t9 : ¬ (T.length : Int) > 60 := by omega
              have HE : Hid (putE l p = 0) := by show _ = _; rw [HE0.out, ← HPL.out, if_neg hfull]
              have HE2 : Hid (putF l p = T) := by show _ = _; rw [putF, if_pos HE.out]; exact HPL.out.symm
              go_wp2
              go_ret2
              exact ⟨_, by rw [HE.out]; rfl, by rw [HE2.out]; exact hown.list, grown_trans hgW hg⟩
          | false =>
            have HPL : Hid (T ++ [p] = putL l p) := HPUT.out
            have CP : Hid (∀ w', W0.grownBy w' none → Calls Try.prog 95 #[.agg #[.slice ka p.1.length kc, .slice va p.2.length vc]] w' fun e w'' => ∃ xk xv, e = .returned (.agg #[xk, xv]) ∧ Own w'.heap.size w'' xk p.1 ∧ Own w'.heap.size w'' xv p.2 ∧ w'.grownBy w'' none) := fun w' hg => rpairCopy_any w' _ p ⟨_, _, rfl, r1.grown (grown_trans hgW hg), r2.grown (grown_trans hgW hg)⟩ (by omega) (by omega)
            go_wp2_with fail
            refine (CP.out _ hg).mono ?_
            rintro e w3z ⟨xkz, xvz, rfl, okz, ovz, hg3z⟩
            obtain ⟨xaz, xcz, rfl⟩ := okz.shape
            obtain ⟨yaz, ycz, rfl⟩ := ovz.shape
            have hgnz := grown_trans hg hg3z
            have hszz := hgnz.size
            have hown1z : OwnP W0.heap.size (w3z.alloc (.cells #[.slice xaz p.1.length xcz, .slice yaz p.2.length ycz] 85)) (.slice ca (T).length ccap) (T) := (OwnP.grownNone hown hg3z).alloc _
            have HKz : Hid (PartIs W0.heap.size (w3z.alloc (.cells #[.slice xaz p.1.length xcz, .slice yaz p.2.length ycz] 85)) (.slice xaz p.1.length xcz) p.1) := (okz.alloc _).part
            have HVz : Hid (PartIs W0.heap.size (w3z.alloc (.cells #[.slice xaz p.1.length xcz, .slice yaz p.2.length ycz] 85)) (.slice yaz p.2.length ycz) p.2) := (ovz.alloc _).part
            clear okz ovz
            by_cases hfull : 60 < (T ++ [p]).length
            · have hfull2 : 60 ≤ T.length := by simp at hfull; omega
              have t8 : (60 : Int) ≤ (T.length : Int) := by omega
              have t9 : (60 : Int) < (T.length : Int) + 1 := by omega
              have HE : Hid (putE l p = 11) := by show _ = _; rw [HE0.out, ← HPL.out, if_pos hfull]
              have HE2 : Hid (putF l p = []) := by show _ = _; rw [putF, if_neg]; rw [HE.out]; decide
              clear hfull
              go_wp2_with (at_builtin; refine wpList_append_pair (w0 := w3z.alloc (.cells #[.slice xaz p.1.length xcz, .slice yaz p.2.length ycz] 85)) rfl _ _ rfl W0.heap.size (.slice ca (T).length ccap) (T) rfl hown1z _ _ p HKz.out HVz.out rfl (w3z.heap.size + 1) rfl (by simp) (by omega) (by simp; omega) ?_; intro v2z w4z ho2z hg2z; obtain ⟨va9, vc9, rfl⟩ := ho2z.shape)
              have hgwz : W0.grownBy w4z none := grown_ownP' (grown_alloc (grown_alloc hgnz _) _) (hown1z.alloc _) (Nat.le_refl _) hg2z
              go_wp2
              go_ret2
              exact ⟨_, by rw [HE.out]; rfl, by rw [HE2.out]; exact pairsIs_nil _, grown_trans hgW hgwz⟩
            · have hfull2 : T.length < 60 := by simp at hfull; omega
              have t8 : (T.length : Int) < 60 := by omega
              have t9 : (T.length : Int) + 1 ≤ 60 := by omega
              have HE : Hid (putE l p = 0) := by show _ = _; rw [HE0.out, ← HPL.out, if_neg hfull]
              have HE2 : Hid (putF l p = T ++ [p]) := by show _ = _; rw [putF, if_pos HE.out]; exact HPL.out.symm
              clear hfull
              go_wp2_with (at_builtin; refine wpList_append_pair (w0 := w3z.alloc (.cells #[.slice xaz p.1.length xcz, .slice yaz p.2.length ycz] 85)) rfl _ _ rfl W0.heap.size (.slice ca (T).length ccap) (T) rfl hown1z _ _ p HKz.out HVz.out rfl (w3z.heap.size + 1) rfl (by simp) (by omega) (by simp; omega) ?_; intro v2z w4z ho2z hg2z; obtain ⟨va9, vc9, rfl⟩ := ho2z.shape)
              have hgwz : W0.grownBy w4z none := grown_ownP' (grown_alloc (grown_alloc hgnz _) _) (hown1z.alloc _) (Nat.le_refl _) hg2z
              go_wp2
              go_ret2
              exact ⟨_, by rw [HE.out]; rfl, by rw [HE2.out]; have := ho2z.list; rw [List.length_append] at this; exact this, grown_trans hgW hgwz⟩
    · have hE : putE0 l p = pairFaultF p := by rw [putE0, if_pos h0]
      have hE2 : putE l p = pairFaultF p := by rw [putE, if_neg (by rw [hE]; exact h1), hE]
      rw [putF, if_neg (by rw [hE2]; exact h1), hE2]
      have hz : (pairFaultF p != 0) = true := by simpa using h1
      clear hE hE2
      go_enter Try.func64, Try.ntmps64
      go_wp2_with fail
      rw [← HW0.out]
      refine PF.out.mono ?_
      rintro e w1 ⟨rfl, hg1⟩
      have e1 := hg1.cell d1 (by simp)
      have e2 := hg1.cell d2 (by simp)
      go_wp2_with fail
      refine (rpairFault_any _ _ _ p _ _).mono ?_
      rintro e w2 ⟨rfl, hg2⟩
      go_wp2
      go_ret2
      exact ⟨_, rfl, pairsIs_nil _, grown_trans hgW (grown_trans hg1 hg2)⟩
  · have hE : putE0 l p = pairsFaultF l := by rw [putE0, if_neg h0]
    have hE2 : putE l p = pairsFaultF l := by rw [putE, if_neg (by rw [hE]; exact h0), hE]
    rw [putF, if_neg (by rw [hE2]; exact h0), hE2]
    have hz : (pairsFaultF l != 0) = true := by simpa using h0
    have hz2 : (pairsFaultF l == 0) = false := by simpa using h0
    clear hE hE2
    go_enter Try.func64, Try.ntmps64
    go_wp2_with fail
    rw [← HW0.out]
    refine PF.out.mono ?_
    rintro e w1 ⟨rfl, hg1⟩
    go_wp2
    go_ret2
    exact ⟨_, rfl, pairsIs_nil _, grown_trans hgW hg1⟩
end Go.Proofs.Ytpmfbfflacbmjaa
