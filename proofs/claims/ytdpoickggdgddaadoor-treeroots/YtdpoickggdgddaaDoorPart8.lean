/-
  Texts of this proof, joined: RJoined, RCopy, RCopyL, LSame, LPairs, TreeRootW.
-/
import Derived.Test.YtdpoickggdgddaaDoorPart1
import Derived.Test.YtdpoickggdgddaaDoorPart3
import Derived.Deep.RegionWith
import Derived.Handy
import Derived.Test.YtdpoickggdgddaaDoorPart5
import Derived.Test.YtdpoickggdgddaaDoorPart7
/-
  The walk of joined of the document's answer, however long.
-/
namespace Go.Proofs.YtdpoickggdgddaaDoor
open Go.RowKit
set_option maxRecDepth 100000 in
set_option maxHeartbeats 1000000 in
theorem joined_gen (w : World) (va vb : Value) (A B : List UInt8) (ha : SliceIs w va A) (hb : SliceIs w vb B) (hl : A.length + B.length ≤ 140737488355328) :
    Calls Tryd.prog 26 #[va, vb] w fun e w' => ∃ v', e = .returned v' ∧ Own w.heap.size w' v' (A ++ B) ∧ w.grownBy w' none := by
  obtain ⟨aa, acap, rfl, hac, har⟩ := ha
  obtain ⟨ba, bcap, rfl, hbc, hbr⟩ := hb
  go_enter Tryd.func26, Tryd.ntmps26
  go_wp2_with fail
  go_loopw [5, 6] (fun p i wr => ∃ m : Nat, m ≤ A.length ∧ i = .int .i64 (m : Int) ∧ Own w.heap.size wr p (A.take m) ∧ w.grownBy wr none) (fun _ i _ => A.length - (intOf i).toNat)
  case atStart => exact ⟨0, by omega, rfl, own_nil _ _, grown_refl _ _⟩
  case round =>
    obtain ⟨m, hm, rfl, hown, hg⟩ := hrel
    by_cases hlt : m < A.length
    · obtain ⟨b, o, rfl, hB⟩ : ∃ b o, aa = some ⟨b, o, none⟩ ∧ BytesAt w b o A := by
        rcases har with ⟨rfl, _⟩ | h
        · simp at hlt
        · exact h
      have c0 := (hB.grown hg (by simp)) m hlt
      have HT : Hid (A.take (m + 1) = A.take m ++ [A.getD m 0]) := by
        show _ = _
        rw [List.take_succ_eq_append_getElem hlt]; simp [hlt]
      have hTl : (A.take m).length + 1 ≤ 140737488355328 := by simp; omega
      generalize A.getD m 0 = x at *
      generalize A.take m = T at *
      obtain ⟨pa, pcap, rfl⟩ := hown.shape
      have hsz := hg.size
      have HB : Hid (SliceIs (wr.alloc (.cells #[.int .u8 (x.toNat : Int)] 5)) (.slice (some ⟨wr.heap.size, 0, none⟩) 1 1) [x]) := one_slice _ _ _
      clear hB har hbr
      have i1 : (m : Int) < (A.length : Int) := by omega
      go_wp2_with (at_builtin; refine wpList_append_bytes rfl (.tmp 14) (.tmp 19) rfl w.heap.size (.slice pa T.length pcap) T rfl (hown.alloc _) (some ⟨wr.heap.size, 0, none⟩) 1 1 _ rfl HB.out (by omega) (by simp; omega) ?_; intro v1 w1 ho1 hg1)
      have hgw := grown_own (grown_alloc hg _) (hown.alloc _) hg1
      go_roundw
      case rel => exact ⟨m + 1, by omega, by go_num, by rw [HT.out]; exact ho1, hgw⟩
      case measure => simp [intOf]; omega
    · obtain rfl : m = A.length := by omega
      rw [List.take_length] at hown
      obtain ⟨pa, pcap, rfl⟩ := hown.shape
      clear har hlt
      go_wp2_with fail
      go_loopw [5, 7] (fun p i wr => ∃ m : Nat, m ≤ B.length ∧ i = .int .i64 (m : Int) ∧ Own w.heap.size wr p (A ++ B.take m) ∧ w.grownBy wr none) (fun _ i _ => B.length - (intOf i).toNat)
      case atStart => exact ⟨0, by omega, rfl, by simpa using hown, hg⟩
      case round =>
        clear hown hg
        obtain ⟨m, hm, rfl, hown, hg⟩ := hrel
        by_cases hlt : m < B.length
        · obtain ⟨b, o, rfl, hB⟩ : ∃ b o, ba = some ⟨b, o, none⟩ ∧ BytesAt w b o B := by
            rcases hbr with ⟨rfl, _⟩ | h
            · simp at hlt
            · exact h
          have c0 := (hB.grown hg (by simp)) m hlt
          have HT : Hid (A ++ B.take (m + 1) = A ++ B.take m ++ [B.getD m 0]) := by
            show _ = _
            rw [List.take_succ_eq_append_getElem hlt]; simp [hlt]
          have hTl : (A ++ B.take m).length + 1 ≤ 140737488355328 := by simp; omega
          generalize B.getD m 0 = x at *
          generalize A ++ B.take m = T at *
          obtain ⟨qa, qcap, rfl⟩ := hown.shape
          have hsz := hg.size
          have HB : Hid (SliceIs (wr.alloc (.cells #[.int .u8 (x.toNat : Int)] 5)) (.slice (some ⟨wr.heap.size, 0, none⟩) 1 1) [x]) := one_slice _ _ _
          clear hB hbr
          have i1 : (m : Int) < (B.length : Int) := by omega
          go_wp2_with (at_builtin; refine wpList_append_bytes rfl (.tmp 27) (.tmp 32) rfl w.heap.size (.slice qa T.length qcap) T rfl (hown.alloc _) (some ⟨wr.heap.size, 0, none⟩) 1 1 _ rfl HB.out (by omega) (by simp; omega) ?_; intro v1 w1 ho1 hg1)
          have hgw := grown_own (grown_alloc hg _) (hown.alloc _) hg1
          go_roundw
          case rel =>
            first
              | exact ⟨m + 1, by omega, by go_num, by rw [HT.out]; exact ho1, hgw⟩
              | ((repeat apply Exists.intro); refine ⟨⟨m + 1, by omega, ?_, by rw [HT.out]; exact ho1, hgw⟩, rfl⟩; go_num)
          case measure => simp [intOf]; omega
        · obtain rfl : m = B.length := by omega
          rw [List.take_length] at hown
          obtain ⟨qa, qcap, rfl⟩ := hown.shape
          go_wp2
          go_ret
          exact ⟨_, rfl, hown, hg⟩
end Go.Proofs.YtdpoickggdgddaaDoor

/-
  The walks of the document's answer: pairCopy, PairsCopy.
-/
namespace Go.Proofs.YtdpoickggdgddaaDoor
open Go.RowKit
set_option maxRecDepth 100000 in
set_option maxHeartbeats 1000000 in
theorem rpairCopy_any (w : World) (v : Value) (p : Pr) (hv : PairIs w v p) (h1 : p.1.length ≤ 140737488355328) (h2 : p.2.length ≤ 140737488355328) :
    Calls Tryd.prog 15 #[v] w fun e w' => ∃ vk vv, e = .returned (.agg #[vk, vv]) ∧ Own w.heap.size w' vk p.1 ∧ Own w.heap.size w' vv p.2 ∧ w.grownBy w' none := by
  obtain ⟨vk, vv, rfl, hk, hv⟩ := hv
  go_enter Tryd.func15, Tryd.ntmps15
  go_wp2_with fail
  obtain ⟨W0, hW0⟩ : ∃ W0 : World, W0 = ((w.alloc (.cells #[vk, vv] 35)).alloc (.cells #[.slice none 0 0, .slice none 0 0] 35)).drew := ⟨_, rfl⟩
  have hgW : w.grownBy W0 none := by rw [hW0]; exact grown_drew (grown_alloc (grown_alloc (grown_refl _ _) _) _)
  have J1 : Hid (Calls Tryd.prog 26 #[vk, .slice none 0 0] W0 fun e w' => ∃ v', e = .returned v' ∧ Own W0.heap.size w' v' p.1 ∧ W0.grownBy w' none) := by
    have := joined_gen W0 vk (.slice none 0 0) p.1 [] (hk.grown hgW) (sliceIs_nil _) (by simpa using h1)
    rw [List.append_nil] at this
    exact this
  have J2 : Hid (∀ w1, W0.grownBy w1 none → Calls Tryd.prog 26 #[vv, .slice none 0 0] w1 fun e w' => ∃ v', e = .returned v' ∧ Own w1.heap.size w' v' p.2 ∧ w1.grownBy w' none) := by
    intro w1 hg1
    have := joined_gen w1 vv (.slice none 0 0) p.2 [] (hv.grown (grown_trans hgW hg1)) (sliceIs_nil _) (by simpa using h2)
    rw [List.append_nil] at this
    exact this
  have HW0 : Hid (W0 = ((w.alloc (.cells #[vk, vv] 35)).alloc (.cells #[.slice none 0 0, .slice none 0 0] 35)).drew) := hW0
  have C1 : W0.cell? ⟨w.heap.size, 1, none⟩ = some vv := by rw [hW0]; simp
  have C2 : Hid (W0.heap[w.heap.size + 1]? = some (.cells #[.slice none 0 0, .slice none 0 0] 35)) := by
    have := heap_alloc_new (w.alloc (.cells #[vk, vv] 35)) (.cells #[.slice none 0 0, .slice none 0 0] 35)
    rw [hW0]
    rw [World.size_alloc] at this
    exact this
  clear hW0 hk hv
  go_region_with (go_at_call 26; first
    | (rw [← HW0.out]; refine J1.out.mono ?_; rintro e w1 ⟨v1, rfl, ho1, hg1⟩; have hc1 := hg1.cell C1 (by simp); obtain ⟨a1, cap1, rfl⟩ := ho1.shape)
    | (refine (J2.out _ ?_).mono ?_; assumption; rintro e w2 ⟨v2, rfl, ho2, hg2⟩; obtain ⟨a2, cap2, rfl⟩ := ho2.shape; obtain ⟨cA, cB, fA, fB⟩ := pair_room (grown_trans hg1 hg2) C2.out))
  all_goals (obtain ⟨cC, cD⟩ := pair_set (grown_trans hg1 hg2) C2.out (.slice a1 p.1.length cap1) (.slice a2 p.2.length cap2); clear cA cB fA fB; go_wp2; refine bodyPost_ret (v := .agg #[.slice a1 p.1.length cap1, .slice a2 p.2.length cap2]) (by simp [results, Tryd.results15, go_sem, cC, cD]) rfl ?_)
  all_goals
    have hs0 : w.heap.size + 2 ≤ W0.heap.size := by rw [HW0.out]; simp
    have hs1 := hg1.size
    refine ⟨_, _, rfl, ?_, ?_, ?_⟩
    · exact own_mono (((ho1.grownNone hg2).setOther _ _ _ (by omega)).setOther _ _ _ (by omega)) (by omega)
    · exact own_mono ((ho2.setOther _ _ _ (by omega)).setOther _ _ _ (by omega)) (by omega)
    · exact grown_setNew (grown_setNew (grown_trans hgW (grown_trans hg1 hg2)) _ (by omega) _ _) _ (by omega) _ _
end Go.Proofs.YtdpoickggdgddaaDoor

/-
  The walk of the document's answer: PairsCopy.
-/
namespace Go.Proofs.YtdpoickggdgddaaDoor
open Go.RowKit
set_option maxRecDepth 100000 in
set_option maxHeartbeats 1000000 in
theorem pairsCopy_any (w : World) (v : Value) (l : PL) (hv : PairsIs w v l) (hl : l.length * 48 ≤ 140737488355328) (hls : ∀ i, i < l.length → (l.getD i ([], [])).1.length ≤ 140737488355328 ∧ (l.getD i ([], [])).2.length ≤ 140737488355328) :
    Calls Tryd.prog 9 #[v] w fun e w' => ∃ v', e = .returned v' ∧ OwnP w.heap.size w' v' l ∧ w.grownBy w' none := by
  obtain ⟨a, cap, rfl⟩ := hv.shape
  go_enter Tryd.func9, Tryd.ntmps9
  go_wp2_with fail
  go_loopw [3, 4] (fun cv i wr => ∃ m : Nat, m ≤ l.length ∧ i = .int .i64 (m : Int) ∧ OwnP w.heap.size wr cv (l.take m) ∧ w.grownBy wr none) (fun _ i _ => l.length - (intOf i).toNat)
  case atStart => exact ⟨0, by omega, rfl, ownP_nil _ _, grown_refl _ _⟩
  case round =>
    obtain ⟨m, hm, rfl, hown, hg⟩ := hrel
    by_cases hlt : m < l.length
    · obtain ⟨b, o, rfl, hat⟩ := hv.at m hlt
      obtain ⟨vk, vv, c1, c2, s1, s2⟩ := hat.grown hg
      have HT : Hid (l.take (m + 1) = l.take m ++ [l.getD m ([], [])]) := by
        show _ = _
        rw [List.take_succ_eq_append_getElem hlt]; simp [hlt]
      have hTl : (l.take m).length = m := by simp; omega
      obtain ⟨hl1, hl2⟩ := hls m hlt
      generalize l.getD m ([], []) = P at *
      generalize l.take m = T at *
      have CP : Hid (Calls Tryd.prog 15 #[.agg #[vk, vv]] wr fun e w' => ∃ vk vv, e = .returned (.agg #[vk, vv]) ∧ Own wr.heap.size w' vk P.1 ∧ Own wr.heap.size w' vv P.2 ∧ wr.grownBy w' none) := rpairCopy_any wr _ P ⟨vk, vv, rfl, s1, s2⟩ hl1 hl2
      obtain ⟨ak, ck, rfl, _⟩ := s1
      obtain ⟨av, cv, rfl, _⟩ := s2
      obtain ⟨ca, ccap, rfl⟩ := hown.shape
      rw [hTl] at hown ⊢
      clear hat hls
      have i1 : (m : Int) < (l.length : Int) := by omega
      go_wp2_with fail
      refine CP.out.mono ?_
      rintro e w1 ⟨xk, xv, rfl, ok, ov, hg1⟩
      obtain ⟨xa, xc, rfl⟩ := ok.shape
      obtain ⟨ya, yc, rfl⟩ := ov.shape
      clear c1 c2 CP
      have hsz := (grown_trans hg hg1).size
      have hown1 : OwnP w.heap.size (w1.alloc (.cells #[.slice xa P.1.length xc, .slice ya P.2.length yc] 35)) (.slice ca m ccap) T := (hown.grownNone hg1).alloc _
      have HK : Hid (PartIs w.heap.size (w1.alloc (.cells #[.slice xa P.1.length xc, .slice ya P.2.length yc] 35)) (.slice xa P.1.length xc) P.1) := (ok.alloc _).part
      have HV : Hid (PartIs w.heap.size (w1.alloc (.cells #[.slice xa P.1.length xc, .slice ya P.2.length yc] 35)) (.slice ya P.2.length yc) P.2) := (ov.alloc _).part
      clear ok ov hown
      go_wp2_with (at_builtin; refine wpList_append_pair (w0 := w1.alloc (.cells #[.slice xa P.1.length xc, .slice ya P.2.length yc] 35)) rfl _ _ rfl w.heap.size (.slice ca m ccap) T rfl hown1 _ _ P HK.out HV.out rfl (w1.heap.size + 1) rfl (by simp) (by omega) (by simp; omega) ?_; intro v2 w2 ho2 hg2)
      have hgw := grown_ownP (grown_alloc (grown_alloc (grown_trans hg hg1) _) _) (hown1.alloc _) hg2
      go_roundw
      case rel => exact ⟨m + 1, by omega, by go_num, by rw [HT.out]; exact ho2, hgw⟩
      case measure => simp [intOf]; omega
    · obtain rfl : m = l.length := by omega
      rw [List.take_length] at hown
      obtain ⟨pa, pcap, rfl⟩ := hown.shape
      go_wp2
      go_ret
      exact ⟨_, rfl, hown, hg⟩
end Go.Proofs.YtdpoickggdgddaaDoor

/-
  The walk of canopylaw.sameBytes.
-/
namespace Go.Proofs.YtdpoickggdgddaaDoor
open Go.RowKit
theorem sameBytes_any (w : World) (v1 v2 : Value) (b1 b2 : List UInt8) (h1 : SliceIs w v1 b1) (h2 : SliceIs w v2 b2) :
    Calls Tryd.prog 7 #[v1, v2] w fun e w' => e = .returned (.bool (decide (b1 = b2))) ∧ w' = w := by
  have c1 := conv_bytes w v1 b1 h1
  have c2 := conv_bytes w v2 b2 h2
  go_enter Tryd.func7, Tryd.ntmps7
  go_wp2
  go_ret
  refine ⟨?_, rfl⟩
  have e : ((textOf b1).toList == (textOf b2).toList) = decide (b1 = b2) := by rw [textOf_list, textOf_list]; by_cases h : b1 = b2 <;> simp [h]
  rw [← e]
  rfl
end Go.Proofs.YtdpoickggdgddaaDoor

/-
  The walks of canopylaw's pairs, samePair, samePairs.
-/
namespace Go.Proofs.YtdpoickggdgddaaDoor
open Go.RowKit
theorem pairs_any (w : World) (v : Value) (l : PL) (hv : PairsIs w v l) (hl : l.length * 48 ≤ 140737488355328) (hls : ∀ i, i < l.length → (l.getD i ([], [])).1.length ≤ 140737488355328 ∧ (l.getD i ([], [])).2.length ≤ 140737488355328) :
    Calls Tryd.prog 4 #[v] w fun e w' => ∃ v', e = .returned v' ∧ OwnP w.heap.size w' v' l ∧ w.grownBy w' none := by
  have HC : Hid (Calls Tryd.prog 9 #[v] w fun e w' => ∃ v', e = .returned v' ∧ OwnP w.heap.size w' v' l ∧ w.grownBy w' none) := pairsCopy_any w v l hv hl hls
  clear hls
  go_enter Tryd.func4, Tryd.ntmps4
  go_wp2_with fail
  refine HC.out.mono ?_
  rintro e w1 ⟨v1, rfl, ho1, hg1⟩
  go_wp2
  go_ret
  exact ⟨v1, rfl, ho1, hg1⟩
set_option maxRecDepth 100000 in
set_option maxHeartbeats 1000000 in
theorem samePair_any (w : World) (v u : Value) (p q : Pr) (hv : PairIs w v p) (hu : PairIs w u q) :
    Calls Tryd.prog 14 #[v, u] w fun e w' => e = .returned (.bool (decide (p = q))) ∧ w.grownBy w' none := by
  obtain ⟨vk, vv, rfl, s1, s2⟩ := hv
  obtain ⟨uk, uv, rfl, r1, r2⟩ := hu
  obtain ⟨W0, hW0⟩ : ∃ W0 : World, W0 = (w.alloc (.cells #[vk, vv] 35)).alloc (.cells #[uk, uv] 35) := ⟨_, rfl⟩
  have hgW : w.grownBy W0 none := by rw [hW0]; exact grown_alloc (grown_alloc (grown_refl _ _) _) _
  have S1 : Hid (SliceIs W0 vk p.1) := s1.grown hgW
  have S2 : Hid (SliceIs W0 vv p.2) := s2.grown hgW
  have R1 : Hid (SliceIs W0 uk q.1) := r1.grown hgW
  have R2 : Hid (SliceIs W0 uv q.2) := r2.grown hgW
  have HW0 : Hid (W0 = (w.alloc (.cells #[vk, vv] 35)).alloc (.cells #[uk, uv] 35)) := hW0
  have HE : Hid (decide (p = q) = (decide (p.1 = q.1) && decide (p.2 = q.2))) := by
    show _ = _
    by_cases h1 : p.1 = q.1 <;> by_cases h2 : p.2 = q.2 <;> simp [Prod.ext_iff, h1, h2]
  have c1 : W0.cell? ⟨w.heap.size, 0, none⟩ = some vk := by rw [hW0]; simp
  have c2 : W0.cell? ⟨w.heap.size, 1, none⟩ = some vv := by rw [hW0]; simp
  have c3 : W0.cell? ⟨w.heap.size + 1, 0, none⟩ = some uk := by rw [hW0]; simp
  have c4 : W0.cell? ⟨w.heap.size + 1, 1, none⟩ = some uv := by rw [hW0]; simp
  clear s1 s2 r1 r2 hW0
  go_enter Tryd.func14, Tryd.ntmps14
  go_wp2_with fail
  rw [← HW0.out]
  refine (sameBytes_any _ _ _ _ _ S1.out R1.out).mono ?_
  rintro e w1 ⟨rfl, rfl⟩
  cases hb : decide (p.1 = q.1) with
  | true =>
    go_wp2_with fail
    refine (sameBytes_any _ _ _ _ _ S2.out R2.out).mono ?_
    rintro e w1 ⟨rfl, rfl⟩
    go_wp2
    go_ret
    exact ⟨by rw [HE.out, hb]; rfl, hgW⟩
  | false =>
    go_wp2
    go_ret
    exact ⟨by rw [HE.out, hb]; rfl, hgW⟩
set_option maxRecDepth 100000 in
set_option maxHeartbeats 1000000 in
theorem samePairs_any (w : World) (v u : Value) (l m : PL) (hv : PairsIs w v l) (hu : PairsIs w u m) (hl : l.length ≤ 140737488355328) :
    Calls Tryd.prog 8 #[v, u] w fun e w' => e = .returned (.bool (decide (l = m))) ∧ w.grownBy w' none := by
  obtain ⟨a, cap, rfl⟩ := hv.shape
  obtain ⟨a2, cap2, rfl⟩ := hu.shape
  by_cases hlen : l.length = m.length
  · have HL : Hid (l.length = m.length) := hlen
    rw [← hlen] at hu ⊢
    clear hlen
    go_enter Tryd.func8, Tryd.ntmps8
    go_wp2_with fail
    go_loopw [5] (fun i wr => ∃ k : Nat, k ≤ l.length ∧ i = .int .i64 (k : Int) ∧ w.grownBy wr none ∧ ∀ j, j < k → l.getD j ([], []) = m.getD j ([], [])) (fun i _ => l.length - (intOf i).toNat)
    case atStart => exact ⟨0, by omega, rfl, grown_refl _ _, fun j hj => by omega⟩
    case round =>
      obtain ⟨k, hk, rfl, hg, hsame⟩ := hrel
      have HS : Hid (∀ j, j < k → l.getD j ([], []) = m.getD j ([], [])) := hsame
      clear hsame
      by_cases hlt : k < l.length
      · obtain ⟨b, o, rfl, hat⟩ := hv.at k hlt
        obtain ⟨vk, vv, c1, c2, s1, s2⟩ := hat.grown hg
        obtain ⟨b2, o2, rfl, hat2⟩ := hu.at k (by rw [← HL.out]; exact hlt)
        obtain ⟨uk, uv, d1, d2, r1, r2⟩ := hat2.grown hg
        have SP : Hid (∀ w', wr.grownBy w' none → Calls Tryd.prog 14 #[.agg #[vk, vv], .agg #[uk, uv]] w' fun e w'' => e = .returned (.bool (decide (l.getD k ([], []) = m.getD k ([], [])))) ∧ w'.grownBy w'' none) :=
          fun w' hg => samePair_any w' _ _ _ _ ⟨vk, vv, rfl, s1.grown hg, s2.grown hg⟩ ⟨uk, uv, rfl, r1.grown hg, r2.grown hg⟩
        obtain ⟨ak, ck, rfl⟩ := s1.shape
        obtain ⟨av, cv, rfl⟩ := s2.shape
        obtain ⟨bk, dk, rfl⟩ := r1.shape
        obtain ⟨bv, dv, rfl⟩ := r2.shape
        generalize (l.getD k ([], [])).1.length = n1 at *
        generalize (l.getD k ([], [])).2.length = n2 at *
        generalize (m.getD k ([], [])).1.length = n3 at *
        generalize (m.getD k ([], [])).2.length = n4 at *
        have i2 : (k : Int) < (l.length : Int) := by omega
        clear hat hat2 hv hu s1 s2 r1 r2
        have hgd := grown_drew (grown_refl wr none)
        cases hb : decide (l.getD k ([], []) = m.getD k ([], [])) with
        | true =>
          rw [hb] at SP
          have hb2 : l.getD k ([], []) = m.getD k ([], []) := of_decide_eq_true hb
          have HB : Hid (l.getD k ([], []) = m.getD k ([], [])) := hb2
          clear hb2
          clear hb
          go_wp2_with fail
          go_region_with (go_at_call 14; refine (SP.out _ ?_).mono ?_; exact hgd; rintro e w1 ⟨rfl, hg1⟩)
          all_goals (go_wp2_with fail; go_roundw)
          case rel =>
            have hs : ∀ j, j < k + 1 → l.getD j ([], []) = m.getD j ([], []) := fun j hj => by
              by_cases hjk : j = k
              · subst hjk; exact HB.out
              · exact HS.out j (by omega)
            first
              | exact ⟨k + 1, by omega, by go_num, grown_trans (grown_trans hg hgd) hg1, hs⟩
              | ((repeat apply Exists.intro); refine ⟨⟨k + 1, by omega, ?_, grown_trans (grown_trans hg hgd) hg1, hs⟩, rfl⟩; go_num)
          case measure => simp [intOf]; omega
          case rel =>
            have hs : ∀ j, j < k + 1 → l.getD j ([], []) = m.getD j ([], []) := fun j hj => by
              by_cases hjk : j = k
              · subst hjk; exact HB.out
              · exact HS.out j (by omega)
            first
              | exact ⟨k + 1, by omega, by go_num, grown_trans (grown_trans hg hgd) hg1, hs⟩
              | ((repeat apply Exists.intro); refine ⟨⟨k + 1, by omega, ?_, grown_trans (grown_trans hg hgd) hg1, hs⟩, rfl⟩; go_num)
          case measure => simp [intOf]; omega
        | false =>
          rw [hb] at SP
          have HB : Hid (decide (l = m) = false) := decide_eq_false fun e => of_decide_eq_false hb (by rw [e])
          clear hb
          go_wp2_with fail
          go_region_with (go_at_call 14; refine (SP.out _ ?_).mono ?_; exact hgd; rintro e w1 ⟨rfl, hg1⟩)
          all_goals (go_wp2; go_ret; exact ⟨by rw [HB.out]; rfl, grown_trans (grown_trans hg hgd) hg1⟩)
      · obtain rfl : k = l.length := by omega
        have HB : Hid (decide (l = m) = true) := decide_eq_true <| List.ext_getElem HL.out fun i h1 h2 => by
          have := HS.out i h1
          simpa [h1, h2] using this
        go_wp2
        go_ret
        exact ⟨by rw [HB.out]; rfl, hg⟩
  · rw [decide_eq_false (fun e => hlen (by rw [e]))]
    have t1 : ¬ (l.length : Int) = (m.length : Int) := by omega
    go_enter Tryd.func8, Tryd.ntmps8
    go_wp2
    go_ret
    exact ⟨rfl, grown_refl _ _⟩
end Go.Proofs.YtdpoickggdgddaaDoor

/-
  The walk of canopylaw.TreeRoots, over what the code must keep.
-/
namespace Go.Proofs.YtdpoickggdgddaaDoor
open Go.RowKit
set_option maxRecDepth 100000 in
set_option maxHeartbeats 1000000 in
theorem treeRoots_walk (hC : TRootOK) (w : World) (v : Value) (l : PL) (hv : PairsIs w v l) (hl : Fits l) (ht : Tabs w) :
    Calls Tryd.prog 3 #[v] w fun e w' => e = .returned (.bool true) ∧ w.grownBy w' none := by
  have P1 : Hid (Calls Tryd.prog 4 #[v] w fun e w' => ∃ v', e = .returned v' ∧ OwnP w.heap.size w' v' l ∧ w.grownBy w' none) := pairs_any w v l hv hl.many hl.each
  have HC : Hid (∀ w' v', w.grownBy w' none → PairsIs w' v' l → Calls Tryd.prog 5 #[v'] w' fun e w'' => ∃ x, e = .returned (.tuple #[x, .int .i64 (pairsFaultF l)]) ∧ SliceIs w'' x (rootF l) ∧ w'.grownBy w'' none) := fun w' v' hg h => hC w' v' l h hl (ht.grownNone hg)
  have HR : Hid (∀ w', w.grownBy w' none → Calls Tryd.prog 6 #[v] w' fun e w'' => ∃ x, e = .returned (.tuple #[x, .int .i64 (pairsFaultF l)]) ∧ SliceIs w'' x (rootF l) ∧ w'.grownBy w'' none) := fun w' hg => RootOf_any w' v l (hv.grown hg)
  have HS : Hid (∀ w' v', w.grownBy w' none → PairsIs w' v' l → Calls Tryd.prog 8 #[v', v] w' fun e w'' => e = .returned (.bool true) ∧ w'.grownBy w'' none) := fun w' v' hg h => by
    have := samePairs_any w' v' v _ _ h (hv.grown hg) hl.len
    rw [decide_eq_true rfl] at this
    exact this
  generalize rootF l = R at *
  generalize pairsFaultF l = E at *
  clear hC hv ht
  go_enter Tryd.func3, Tryd.ntmps3
  go_wp2_with fail
  refine P1.out.mono ?_
  rintro e w1 ⟨v1, rfl, ho1, hg1⟩
  go_wp2_with fail
  refine (HC.out _ _ hg1 ho1.list).mono ?_
  rintro e w2 ⟨x, rfl, hx, hg2⟩
  have hg12 := grown_trans hg1 hg2
  go_wp2_with fail
  refine (HR.out _ hg12).mono ?_
  rintro e w3 ⟨y, rfl, hy, hg3⟩
  have hg13 := grown_trans hg12 hg3
  have SB : Hid (Calls Tryd.prog 7 #[x, y] w3 fun e w' => e = .returned (.bool true) ∧ w' = w3) := by
    have := sameBytes_any w3 x y R R (hx.grown hg3) hy
    rw [decide_eq_true rfl] at this
    exact this
  have L1 : Hid (PairsIs w3 v1 l) := ho1.list.grown (grown_trans hg2 hg3)
  clear hx hy ho1
  go_wp2_with fail
  refine SB.out.mono ?_
  rintro e w4 ⟨rfl, rfl⟩
  go_wp2_with fail
  refine (HS.out _ _ hg13 L1.out).mono ?_
  rintro e w5 ⟨rfl, hg5⟩
  go_wp2
  go_ret
  exact ⟨rfl, grown_trans hg13 hg5⟩
end Go.Proofs.YtdpoickggdgddaaDoor
