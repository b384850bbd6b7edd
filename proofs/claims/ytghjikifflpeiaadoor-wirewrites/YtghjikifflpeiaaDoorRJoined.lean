/-
  The walk of joined of the document's answer, however long.
-/
import Derived.Test.YtghjikifflpeiaaDoorBase
namespace Go.Proofs.YtghjikifflpeiaaDoor
open Go.RowKit
set_option maxRecDepth 100000 in
set_option maxHeartbeats 1000000 in
theorem joined_gen (w : World) (va vb : Value) (A B : List UInt8) (ha : SliceIs w va A) (hb : SliceIs w vb B) (hl : A.length + B.length ≤ 140737488355328) :
    Calls Tryd.prog 37 #[va, vb] w fun e w' => ∃ v', e = .returned v' ∧ Own w.heap.size w' v' (A ++ B) ∧ w.grownBy w' none := by
  obtain ⟨aa, acap, rfl, hac, har⟩ := ha
  obtain ⟨ba, bcap, rfl, hbc, hbr⟩ := hb
  go_enter Tryd.func37, Tryd.ntmps37
  go_wp2_with fail
  go_loopw [5, 6] (fun p i wr => ∃ m : Nat, m ≤ A.length ∧ i = .int .i64 (m : Int) ∧ Own w.heap.size wr p (A.take m) ∧ w.grownBy wr none) (fun _ i _ => A.length - (intOf i).toNat)
  case atStart => exact ⟨0, by omega, rfl, own_nil _ _, grown_refl _ _⟩
  case round =>
    obtain ⟨m, hm, rfl, hown, hg⟩ := hrel
    by_cases hlt : m < A.length
    · obtain ⟨b, o, rfl, hB⟩ : ∃ b o, aa = some ⟨b, o, none⟩ ∧ BytesAt w b o A := by
        rcases har with ⟨rfl, _⟩ | h
        · simp at hlt
        · exact h
      have c0 := (hB.grown hg (by simp)) m hlt
      have HT : Hid (A.take (m + 1) = A.take m ++ [A.getD m 0]) := by
        show _ = _
        rw [List.take_succ_eq_append_getElem hlt]; simp [hlt]
      have hTl : (A.take m).length + 1 ≤ 140737488355328 := by simp; omega
      generalize A.getD m 0 = x at *
      generalize A.take m = T at *
      obtain ⟨pa, pcap, rfl⟩ := hown.shape
      have hsz := hg.size
      have HB : Hid (SliceIs (wr.alloc (.cells #[.int .u8 (x.toNat : Int)] 5)) (.slice (some ⟨wr.heap.size, 0, none⟩) 1 1) [x]) := one_slice _ _ _
      clear hB har hbr
      have i1 : (m : Int) < (A.length : Int) := by omega
      go_wp2_with (at_builtin; refine wpList_append_bytes rfl (.tmp 14) (.tmp 19) rfl w.heap.size (.slice pa T.length pcap) T rfl (hown.alloc _) (some ⟨wr.heap.size, 0, none⟩) 1 1 _ rfl HB.out (by omega) (by simp; omega) ?_; intro v1 w1 ho1 hg1)
      have hgw := grown_own (grown_alloc hg _) (hown.alloc _) hg1
      go_roundw
      case rel => exact ⟨m + 1, by omega, by go_num, by rw [HT.out]; exact ho1, hgw⟩
      case measure => simp [intOf]; omega
    · obtain rfl : m = A.length := by omega
      rw [List.take_length] at hown
      obtain ⟨pa, pcap, rfl⟩ := hown.shape
      clear har hlt
      go_wp2_with fail
      go_loopw [5, 7] (fun p i wr => ∃ m : Nat, m ≤ B.length ∧ i = .int .i64 (m : Int) ∧ Own w.heap.size wr p (A ++ B.take m) ∧ w.grownBy wr none) (fun _ i _ => B.length - (intOf i).toNat)
      case atStart => exact ⟨0, by omega, rfl, by simpa using hown, hg⟩
      case round =>
        clear hown hg
        obtain ⟨m, hm, rfl, hown, hg⟩ := hrel
        by_cases hlt : m < B.length
        · obtain ⟨b, o, rfl, hB⟩ : ∃ b o, ba = some ⟨b, o, none⟩ ∧ BytesAt w b o B := by
            rcases hbr with ⟨rfl, _⟩ | h
            · simp at hlt
            · exact h
          have c0 := (hB.grown hg (by simp)) m hlt
          have HT : Hid (A ++ B.take (m + 1) = A ++ B.take m ++ [B.getD m 0]) := by
            show _ = _
            rw [List.take_succ_eq_append_getElem hlt]; simp [hlt]
          have hTl : (A ++ B.take m).length + 1 ≤ 140737488355328 := by simp; omega
          generalize B.getD m 0 = x at *
          generalize A ++ B.take m = T at *
          obtain ⟨qa, qcap, rfl⟩ := hown.shape
          have hsz := hg.size
          have HB : Hid (SliceIs (wr.alloc (.cells #[.int .u8 (x.toNat : Int)] 5)) (.slice (some ⟨wr.heap.size, 0, none⟩) 1 1) [x]) := one_slice _ _ _
          clear hB hbr
          have i1 : (m : Int) < (B.length : Int) := by omega
          go_wp2_with (at_builtin; refine wpList_append_bytes rfl (.tmp 27) (.tmp 32) rfl w.heap.size (.slice qa T.length qcap) T rfl (hown.alloc _) (some ⟨wr.heap.size, 0, none⟩) 1 1 _ rfl HB.out (by omega) (by simp; omega) ?_; intro v1 w1 ho1 hg1)
          have hgw := grown_own (grown_alloc hg _) (hown.alloc _) hg1
          go_roundw
          case rel =>
            first
              | exact ⟨m + 1, by omega, by go_num, by rw [HT.out]; exact ho1, hgw⟩
              | ((repeat apply Exists.intro); refine ⟨⟨m + 1, by omega, ?_, by rw [HT.out]; exact ho1, hgw⟩, rfl⟩; go_num)
          case measure => simp [intOf]; omega
        · obtain rfl : m = B.length := by omega
          rw [List.take_length] at hown
          obtain ⟨qa, qcap, rfl⟩ := hown.shape
          go_wp2
          go_ret
          exact ⟨_, rfl, hown, hg⟩
end Go.Proofs.YtghjikifflpeiaaDoor
