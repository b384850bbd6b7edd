/-
  The walk of the document's answer to P3.4: DeletedOf, where all is new.
-/
import Derived.Test.YtljdconhplgipaaRPairsKey
import Derived.Test.YtljdconhplgipaaPart13
import Derived.Test.YtljdconhplgipaaRCopy
import Derived.Test.YtljdconhplgipaaPairB
import Derived.Test.YtljdconhplgipaaPart1
namespace Go.Proofs.Ytljdconhplgipaa
open Go.RowKit
set_option maxRecDepth 100000 in
set_option maxHeartbeats 1000000 in
theorem deletedOf_new (w : World) (v u : Value) (l : PL) (k : List UInt8) (hv : PairsIs w v l) (hu : SliceIs w u k) :
    Calls Try.prog 67 #[v, u] w fun e w' => ∃ x, e = .returned (.tuple #[x, .int .i64 (getE l k)]) ∧ PairsB 0 w' x (delF l k) ∧ w.grownBy w' none := by
  obtain ⟨a, cap, rfl⟩ := hv.shape
  obtain ⟨ka, kcap, rfl⟩ := hu.shape
  have PK : Hid (Calls Try.prog 84 #[.slice a l.length cap, .slice ka k.length kcap] w fun e w' => e = .returned (.int .i64 (getE l k)) ∧ w.grownBy w' none) :=
    pairsAndKey_any w (.slice a l.length cap) l ka k.length kcap hv
  by_cases hE : getE l k = 0
  · rw [hE] at PK ⊢
    rw [delF, if_pos hE]
    have HT : Hid (Tree l) := getE_tree hE
    have hroom := HT.out.room
    clear hE
    go_enter Try.func67, Try.ntmps67
    go_wp2_with fail
    refine PK.out.mono ?_
    rintro e w1 ⟨rfl, hg1⟩
    go_wp2_with fail
    go_loopw [7, 8] (fun cv i wr => ∃ m : Nat, m ≤ l.length ∧ i = .int .i64 (m : Int) ∧ OwnQ w.heap.size 0 wr cv (delL (l.take m) k) ∧ w.grownBy wr none) (fun _ i _ => l.length - (intOf i).toNat)
    case atStart => exact ⟨0, by omega, rfl, ownQ_nil _ _ _, hg1⟩
    case round =>
      clear hg1
      obtain ⟨m, hm, rfl, hown, hg⟩ := hrel
      by_cases hlt : m < l.length
      · obtain ⟨b, o, rfl, hat⟩ := hv.at m hlt
        obtain ⟨vk, vv, c1, c2, s1, s2⟩ := hat.grown hg
        have hD := del_take l k m hlt
        have hTl := Nat.le_trans (del_len (l.take m) k) (List.length_take_le m l)
        have hpl := HT.out.pairs l[m] (List.getElem_mem hlt)
        rw [show l[m] = l.getD m ([], []) by simp [hlt]] at hpl
        generalize l.getD m ([], []) = P at *
        generalize delL (l.take m) k = T at *
        have CP : Hid (Calls Try.prog 83 #[.agg #[vk, vv]] wr fun e w' => ∃ vk vv, e = .returned (.agg #[vk, vv]) ∧ Own wr.heap.size w' vk P.1 ∧ Own wr.heap.size w' vv P.2 ∧ wr.grownBy w' none) := rpairCopy_any wr _ P ⟨vk, vv, rfl, s1, s2⟩ (by omega) (by omega)
        have SB : Hid (Calls Try.prog 69 #[vk, .slice ka k.length kcap] wr fun e w' => e = .returned (.bool (decide (P.1 = k))) ∧ w' = wr) := rsame_any wr _ _ _ _ s1 (hu.grown hg)
        obtain ⟨ak, ck, rfl⟩ := s1.shape
        obtain ⟨av, cv, rfl⟩ := s2.shape
        obtain ⟨ca, ccap, rfl⟩ := hown.shape
        clear hat s1 s2 hpl
        have i1 : (m : Int) < (l.length : Int) := by omega
        by_cases he : P.1 = k
        · rw [decide_eq_true he] at SB
          rw [if_pos he] at hD
          have HD : Hid (delL (l.take (m + 1)) k = T) := hD
          clear hD he
          go_wp2_with fail
          refine SB.out.mono ?_
          rintro e w2 ⟨rfl, rfl⟩
          go_wp2_with fail
          go_roundw
          case rel =>
            first
              | exact ⟨m + 1, by omega, by go_num, by rw [HD.out]; exact hown, hg⟩
              | ((repeat apply Exists.intro); refine ⟨⟨m + 1, by omega, ?_, by rw [HD.out]; exact hown, hg⟩, rfl⟩; go_num)
          case measure => simp [intOf]; omega
        · rw [decide_eq_false he] at SB
          rw [if_neg he] at hD
          have HD : Hid (delL (l.take (m + 1)) k = T ++ [P]) := hD
          clear hD he
          go_wp2_with fail
          refine SB.out.mono ?_
          rintro e w2 ⟨rfl, rfl⟩
          go_wp2_with fail
          refine CP.out.mono ?_
          rintro e w3 ⟨xk, xv, rfl, ok, ov, hg3⟩
          obtain ⟨xa1, xc1, rfl⟩ := ok.shape
          obtain ⟨ya1, yc1, rfl⟩ := ov.shape
          clear c1 c2 CP
          have hsz := (grown_trans hg hg3).size
          have hown1 : OwnQ w.heap.size 0 (w3.alloc (.cells #[.slice xa1 P.1.length xc1, .slice ya1 P.2.length yc1] 70)) (.slice ca T.length ccap) T := (hown.grownNone hg3).alloc _
          have HK : Hid (PartIs 0 (w3.alloc (.cells #[.slice xa1 P.1.length xc1, .slice ya1 P.2.length yc1] 70)) (.slice xa1 P.1.length xc1) P.1) := (ok.alloc _).part
          have HV : Hid (PartIs 0 (w3.alloc (.cells #[.slice xa1 P.1.length xc1, .slice ya1 P.2.length yc1] 70)) (.slice ya1 P.2.length yc1) P.2) := (ov.alloc _).part
          clear ok ov hown
          go_wp2_with (at_builtin; refine wpList_append_pairQ (w0 := w3.alloc (.cells #[.slice xa1 P.1.length xc1, .slice ya1 P.2.length yc1] 70)) rfl _ _ rfl w.heap.size 0 (Nat.zero_le _) (.slice ca T.length ccap) T rfl hown1 _ _ P HK.out HV.out rfl (w3.heap.size + 1) rfl (by simp) (by omega) (by simp; omega) ?_; intro v2 w4 ho2 hg2)
          have hgw := grown_ownQ (grown_alloc (grown_alloc (grown_trans hg hg3) _) _) (hown1.alloc _) (Nat.le_refl _) hg2
          go_roundw
          case rel => exact ⟨m + 1, by omega, by go_num, by rw [HD.out]; exact ho2, hgw⟩
          case measure => simp [intOf]; omega
      · obtain rfl : m = l.length := by omega
        rw [List.take_length] at hown
        obtain ⟨pa, pcap, rfl⟩ := hown.shape
        go_wp2
        go_ret2
        exact ⟨_, rfl, hown.pairsB, hg⟩
  · rw [delF, if_neg hE]
    generalize getE l k = z at *
    have hz : (z != 0) = true := by simpa using hE
    go_enter Try.func67, Try.ntmps67
    go_wp2_with fail
    refine PK.out.mono ?_
    rintro e w1 ⟨rfl, hg1⟩
    go_wp2
    go_ret2
    exact ⟨_, rfl, pairsB_nil _ _, hg1⟩
end Go.Proofs.Ytljdconhplgipaa
