/-
  The walk of the document's answer: PairsCopy, where all is new.
-/
import Derived.Test.YtkkcjnhfbblgiaaDoorRCopy
import Derived.Test.YtkkcjnhfbblgiaaDoorPart3
namespace Go.Proofs.YtkkcjnhfbblgiaaDoor
open Go.RowKit
set_option maxRecDepth 100000 in
set_option maxHeartbeats 1000000 in
theorem pairsCopy_new (w : World) (v : Value) (l : PL) (hv : PairsIs w v l) (hl : l.length * 48 ≤ 140737488355328) (hls : ∀ i, i < l.length → (l.getD i ([], [])).1.length ≤ 140737488355328 ∧ (l.getD i ([], [])).2.length ≤ 140737488355328) :
    Calls Tryd.prog 18 #[v] w fun e w' => ∃ v', e = .returned v' ∧ PairsB 0 w' v' l ∧ w.grownBy w' none := by
  obtain ⟨a, cap, rfl⟩ := hv.shape
  go_enter Tryd.func18, Tryd.ntmps18
  go_wp2_with fail
  go_loopw [3, 4] (fun cv i wr => ∃ m : Nat, m ≤ l.length ∧ i = .int .i64 (m : Int) ∧ OwnQ w.heap.size 0 wr cv (l.take m) ∧ w.grownBy wr none) (fun _ i _ => l.length - (intOf i).toNat)
  case atStart => exact ⟨0, by omega, rfl, ownQ_nil _ _ _, grown_refl _ _⟩
  case round =>
    obtain ⟨m, hm, rfl, hown, hg⟩ := hrel
    by_cases hlt : m < l.length
    · obtain ⟨b, o, rfl, hat⟩ := hv.at m hlt
      obtain ⟨vk, vv, c1, c2, s1, s2⟩ := hat.grown hg
      have HT : Hid (l.take (m + 1) = l.take m ++ [l.getD m ([], [])]) := by
        show _ = _
        rw [List.take_succ_eq_append_getElem hlt]; simp [hlt]
      have hTl : (l.take m).length = m := by simp; omega
      obtain ⟨hl1, hl2⟩ := hls m hlt
      generalize l.getD m ([], []) = P at *
      generalize l.take m = T at *
      have CP : Hid (Calls Tryd.prog 31 #[.agg #[vk, vv]] wr fun e w' => ∃ vk vv, e = .returned (.agg #[vk, vv]) ∧ Own wr.heap.size w' vk P.1 ∧ Own wr.heap.size w' vv P.2 ∧ wr.grownBy w' none) := rpairCopy_any wr _ P ⟨vk, vv, rfl, s1, s2⟩ hl1 hl2
      obtain ⟨ak, ck, rfl, _⟩ := s1
      obtain ⟨av, cv, rfl, _⟩ := s2
      obtain ⟨ca, ccap, rfl⟩ := hown.shape
      rw [hTl] at hown ⊢
      clear hat hls
      have i1 : (m : Int) < (l.length : Int) := by omega
      go_wp2_with fail
      refine CP.out.mono ?_
      rintro e w1 ⟨xk, xv, rfl, ok, ov, hg1⟩
      obtain ⟨xa, xc, rfl⟩ := ok.shape
      obtain ⟨ya, yc, rfl⟩ := ov.shape
      clear c1 c2 CP
      have hsz := (grown_trans hg hg1).size
      have hown1 : OwnQ w.heap.size 0 (w1.alloc (.cells #[.slice xa P.1.length xc, .slice ya P.2.length yc] 46)) (.slice ca m ccap) T := (hown.grownNone hg1).alloc _
      have HK : Hid (PartIs 0 (w1.alloc (.cells #[.slice xa P.1.length xc, .slice ya P.2.length yc] 46)) (.slice xa P.1.length xc) P.1) := (ok.alloc _).part
      have HV : Hid (PartIs 0 (w1.alloc (.cells #[.slice xa P.1.length xc, .slice ya P.2.length yc] 46)) (.slice ya P.2.length yc) P.2) := (ov.alloc _).part
      clear ok ov hown
      go_wp2_with (at_builtin; refine wpList_append_pairQ (w0 := w1.alloc (.cells #[.slice xa P.1.length xc, .slice ya P.2.length yc] 46)) rfl _ _ rfl w.heap.size 0 (Nat.zero_le _) (.slice ca m ccap) T rfl hown1 _ _ P HK.out HV.out rfl (w1.heap.size + 1) rfl (by simp) (by omega) (by simp; omega) ?_; intro v2 w2 ho2 hg2)
      have hgw := grown_ownQ (grown_alloc (grown_alloc (grown_trans hg hg1) _) _) (hown1.alloc _) (Nat.le_refl _) hg2
      go_roundw
      case rel => exact ⟨m + 1, by omega, by go_num, by rw [HT.out]; exact ho2, hgw⟩
      case measure => simp [intOf]; omega
    · obtain rfl : m = l.length := by omega
      rw [List.take_length] at hown
      obtain ⟨pa, pcap, rfl⟩ := hown.shape
      go_wp2
      go_ret
      exact ⟨_, rfl, hown.pairsB, hg⟩
end Go.Proofs.YtkkcjnhfbblgiaaDoor
