/-
  The walk of canopykeep.ForestFull, over what the code must keep.
-/
import Derived.Test.YtkkcjnhfbblgiacPart3
import Derived.Test.YtkkcjnhfbblgiacLFK
import Derived.Test.YtkkcjnhfbblgiacPart1
import Derived.Test.YtkkcjnhfbblgiacPicked
import Derived.Test.YtkkcjnhfbblgiacKForest
namespace Go.Proofs.Ytkkcjnhfbblgiac
open Go.RowKit
/-- A tenant of one name, one key and no value, as a composite literal lays it. -/
theorem ten_new (base : Nat) (w : World) (x : Int) (u : UInt8) (hx : ((u.toNat : Nat) : Int) = x) (hb : base ≤ w.heap.size) (W : World) (hW : W = (((w.alloc (.cells #[.int .u8 x] 5)).alloc (.cells #[.int .u8 1] 5)).alloc (.cells #[.slice (some ⟨w.heap.size + 1, 0, none⟩) 1 1, .slice none 0 0] 41)).alloc (.cells #[.slice (some ⟨w.heap.size, 0, none⟩) 1 1, .slice (some ⟨w.heap.size + 2, 0, none⟩) 1 1] 45)) :
    PartIs base W (.slice (some ⟨w.heap.size, 0, none⟩) 1 1) [u] ∧ PairsB base W (.slice (some ⟨w.heap.size + 2, 0, none⟩) 1 1) [([1], [])] ∧ W.heap[w.heap.size + 3]? = some (.cells #[.slice (some ⟨w.heap.size, 0, none⟩) 1 1, .slice (some ⟨w.heap.size + 2, 0, none⟩) 1 1] 45) ∧ w.grownBy W none := by
  have k1 : PartIs base (w.alloc (.cells #[.int .u8 x] 5)) (.slice (some ⟨w.heap.size, 0, none⟩) 1 1) [u] := by
    have := own_new base w [u] hb (by unfold maxLen; simp)
    simp only [bytesOf, List.map_cons, List.map_nil, hx] at this
    exact this.part
  have k2 : PartIs base ((w.alloc (.cells #[.int .u8 x] 5)).alloc (.cells #[.int .u8 1] 5)) (.slice (some ⟨w.heap.size + 1, 0, none⟩) 1 1) [1] := by
    have := own_new base (w.alloc (.cells #[.int .u8 x] 5)) [1] (by simp; omega) (by unfold maxLen; simp)
    rw [World.size_alloc] at this
    exact this.part
  have hg1 : (w.alloc (.cells #[.int .u8 x] 5)).grownBy W none := by rw [hW]; exact grown_alloc (grown_alloc (grown_alloc (grown_refl _ _) _) _) _
  have hg2 : ((w.alloc (.cells #[.int .u8 x] 5)).alloc (.cells #[.int .u8 1] 5)).grownBy W none := by rw [hW]; exact grown_alloc (grown_alloc (grown_refl _ _) _) _
  have hP : W.heap[w.heap.size + 2]? = some (.cells #[.slice (some ⟨w.heap.size + 1, 0, none⟩) 1 1, .slice none 0 0] 41) := by
    rw [hW, (World.grownBy_alloc _ _ none).block _ (by simp) (by simp)]
    have := heap_alloc_new ((w.alloc (.cells #[.int .u8 x] 5)).alloc (.cells #[.int .u8 1] 5)) (.cells #[.slice (some ⟨w.heap.size + 1, 0, none⟩) 1 1, .slice none 0 0] 41)
    rwa [World.size_alloc, World.size_alloc] at this
  refine ⟨k1.keptT hg1 (.inl rfl), ⟨_, 1, rfl, by simp, .inr ⟨w.heap.size + 2, 0, rfl, .inr ⟨_, _, hP⟩, fun i hi => ?_⟩⟩, ?_, ?_⟩
  · match i, hi with
    | 0, _ => exact ⟨_, _, by simp [World.cell?, hP], by simp [World.cell?, hP], k2.keptT hg2 (.inl rfl), ⟨sliceIs_nil _, .inl rfl⟩⟩
  · have := heap_alloc_new (((w.alloc (.cells #[.int .u8 x] 5)).alloc (.cells #[.int .u8 1] 5)).alloc (.cells #[.slice (some ⟨w.heap.size + 1, 0, none⟩) 1 1, .slice none 0 0] 41)) (.cells #[.slice (some ⟨w.heap.size, 0, none⟩) 1 1, .slice (some ⟨w.heap.size + 2, 0, none⟩) 1 1] 45)
    rw [World.size_alloc, World.size_alloc, World.size_alloc] at this
    rw [hW]
    exact this
  · rw [hW]; exact grown_alloc (grown_alloc (grown_alloc (grown_alloc (grown_refl _ _) _) _) _) _
/-- A list of one write that is no deletion, of a name and a key of one byte. -/
theorem full_writes (w : World) (k : Nat) (hk : k < 256) (W : World) (hW : W = ((w.alloc (.cells #[.int .u8 (k : Int)] 5)).alloc (.cells #[.int .u8 2] 5)).alloc (.cells #[.slice (some ⟨w.heap.size, 0, none⟩) 1 1, .slice (some ⟨w.heap.size + 1, 0, none⟩) 1 1, .bool false, .slice none 0 0] 29)) :
    WritesIs W (.slice (some ⟨w.heap.size + 2, 0, none⟩) 1 1) [fullW k] ∧ w.grownBy W none := by
  have s1 : SliceIs (w.alloc (.cells #[.int .u8 (k : Int)] 5)) (.slice (some ⟨w.heap.size, 0, none⟩) 1 1) [UInt8.ofNat k] := by
    have := one_slice w (UInt8.ofNat k) 5
    rw [show (((UInt8.ofNat k).toNat : Nat) : Int) = (k : Int) by simp; omega] at this
    exact this
  have s2 := one_slice (w.alloc (.cells #[.int .u8 (k : Int)] 5)) 2 5
  rw [World.size_alloc] at s2
  have := writes_one ((w.alloc (.cells #[.int .u8 (k : Int)] 5)).alloc (.cells #[.int .u8 2] 5)) (.slice (some ⟨w.heap.size, 0, none⟩) 1 1) (.slice (some ⟨w.heap.size + 1, 0, none⟩) 1 1) (.slice none 0 0) (fullW k) (s1.alloc _) s2 (sliceIs_nil _) 29
  rw [World.size_alloc, World.size_alloc] at this
  rw [hW]
  exact ⟨this, grown_alloc (grown_alloc (grown_alloc (grown_refl _ _) _) _) _⟩
theorem eight_forest : Forest (eightN 8) := (forest_iff _).1 eight_ok
theorem full_fits (k : Nat) : FitsW [fullW k] := ⟨by simp, fun i hi => by
  match i, hi with
  | 0, _ => exact ⟨by simp [fullW], by simp [fullW], by simp [fullW]⟩⟩
set_option maxRecDepth 100000 in
set_option maxHeartbeats 2000000 in
theorem forestFull_walk (hA : FApplyOK) (hC : FCheckOK) (w : World) (n : Int) (hn1 : -9223372036854775808 ≤ n) (hn2 : n ≤ 9223372036854775807) :
    Calls Try.prog 4 #[.int .i64 n] w fun e w' => e = .returned (.bool true) ∧ w.grownBy w' none := by
  have HA : Hid FApplyOK := hA
  have HC : Hid FCheckOK := hC
  clear hA hC
  go_enter Try.func4, Try.ntmps4
  go_wp2_with fail
  go_loopw [3, 4] (fun cv i wr => ∃ m : Nat, m ≤ 8 ∧ i = .int .i64 (m : Int) ∧ OwnT w.heap.size wr cv (eightN m) ∧ w.grownBy wr none) (fun _ i _ => 8 - (intOf i).toNat)
  case atStart => exact ⟨0, by omega, rfl, ownT_nil _ _, grown_refl _ _⟩
  case round =>
    obtain ⟨m, hm, rfl, hown, hgr⟩ := hrel
    obtain ⟨ca, ccap, rfl⟩ := hown.shape
    by_cases hlt : m < 8
    · have t1 : (m : Int) < 8 := by omega
      have HS : Hid (eightN (m + 1) = eightN m ++ [([UInt8.ofNat (m + 1)], [([1], [])])]) := eightN_succ m
      have hln : (eightN m).length = m := eightN_len m
      have hsz := hgr.size
      obtain ⟨W4, hW4⟩ : ∃ W4 : World, W4 = (((wr.alloc (.cells #[.int .u8 ((m : Int) + 1)] 5)).alloc (.cells #[.int .u8 1] 5)).alloc (.cells #[.slice (some ⟨wr.heap.size + 1, 0, none⟩) 1 1, .slice none 0 0] 41)).alloc (.cells #[.slice (some ⟨wr.heap.size, 0, none⟩) 1 1, .slice (some ⟨wr.heap.size + 2, 0, none⟩) 1 1] 45) := ⟨_, rfl⟩
      obtain ⟨hk, hv, hb, hg4⟩ := ten_new w.heap.size wr ((m : Int) + 1) (UInt8.ofNat (m + 1)) (by simp; omega) hsz W4 hW4
      have HK : Hid (PartIs w.heap.size W4 (.slice (some ⟨wr.heap.size, 0, none⟩) 1 1) [UInt8.ofNat (m + 1)]) := hk
      have HV : Hid (PairsB w.heap.size W4 (.slice (some ⟨wr.heap.size + 2, 0, none⟩) 1 1) [([1], [])]) := hv
      have HB : Hid (W4.heap[wr.heap.size + 3]? = some (.cells #[.slice (some ⟨wr.heap.size, 0, none⟩) 1 1, .slice (some ⟨wr.heap.size + 2, 0, none⟩) 1 1] 45)) := hb
      have HOW : Hid (OwnT w.heap.size W4 (.slice ca m ccap) (eightN m)) := by
        have := hown.grownNone hg4
        rw [hln] at this
        exact this
      have hgw4 := grown_trans hgr hg4
      have hs4 : w.heap.size ≤ W4.heap.size := hgw4.size
      rw [hln]
      have HL : Hid ((eightN m).length = m) := hln
      have HW4 : Hid (W4 = _) := hW4
      clear hown hk hv hb hW4 hln
      generalize eightN m = F at *
      go_wp2_with (at_builtin; rw [← HW4.out]; refine wpList_append_ten rfl _ _ rfl w.heap.size (.slice ca m ccap) F rfl HOW.out _ _ ([UInt8.ofNat (m + 1)], [([1], [])]) HK.out HV.out (wr.heap.size + 3) HB.out rfl (by rw [HL.out]; omega) hs4 ?_; intro v2 w2 ho2 hg2)
      have hgw := grown_ownT hgw4 HOW.out (Nat.le_refl _) hg2
      go_roundw
      case rel =>
        first
          | exact ⟨m + 1, by omega, by go_num, by rw [HS.out]; exact ho2, hgw⟩
          | ((repeat apply Exists.intro); refine ⟨⟨m + 1, by omega, ?_, by rw [HS.out]; exact ho2, hgw⟩, rfl⟩; go_num)
      case measure => simp [intOf]; omega
    · obtain rfl : m = 8 := by omega
      have HL : Hid (TensIs wr (.slice ca 8 ccap) (eightN 8)) := by have := hown.list; rw [eightN_len] at this; exact this
      rw [eightN_len]
      clear hown
      go_wp2_with fail
      refine (picked_any n 256 wr hn1 hn2 (by omega) (by omega)).mono ?_
      rintro e w2 ⟨k, rfl, hk, rfl⟩
      have hk2 : k < 256 := by omega
      obtain ⟨W3, hW3⟩ : ∃ W3 : World, W3 = ((w2.alloc (.cells #[.int .u8 (k : Int)] 5)).alloc (.cells #[.int .u8 2] 5)).alloc (.cells #[.slice (some ⟨w2.heap.size, 0, none⟩) 1 1, .slice (some ⟨w2.heap.size + 1, 0, none⟩) 1 1, .bool false, .slice none 0 0] 29) := ⟨_, rfl⟩
      obtain ⟨hws, hg3⟩ := full_writes w2 k hk2 W3 hW3
      have AP : Hid (Calls Try.prog 13 #[.slice ca 8 ccap, .slice (some ⟨w2.heap.size + 2, 0, none⟩) 1 1] W3 fun e w' => ∃ x, e = .returned (.tuple #[x, .int .i64 (appliedE (eightN 8) [fullW k])]) ∧ TensIs w' x (appliedF (eightN 8) [fullW k]) ∧ W3.grownBy w' none) := HA.out W3 _ _ _ _ (HL.out.grown hg3) hws eight_forest.fits (full_fits k)
      have CK : Hid (∀ w', W3.grownBy w' none → Calls Try.prog 14 #[.slice ca 8 ccap] w' fun e w'' => e = .returned (.int .i64 0) ∧ w'.grownBy w'' none) := fun w' hg => FCheckOK.of HC.out w' _ _ (HL.out.grown (grown_trans hg3 hg)) eight_forest
      have f1 := full_in k hk2
      have f2 := full_out k hk2
      have hg03 := grown_trans hgr hg3
      have HW3 : Hid (W3 = _) := hW3
      generalize appliedE (eightN 8) [fullW k] = E at *
      generalize appliedF (eightN 8) [fullW k] = T at *
      clear HA HC hk hg3 hws hW3 hgr HL
      by_cases hin : 1 ≤ k ∧ k ≤ 8
      · obtain ⟨rfl, hl, ht⟩ := f1 hin.1 hin.2
        obtain ⟨j, rfl⟩ : ∃ j, k = j + 1 := ⟨k - 1, by omega⟩
        have HTL : Hid (T.length = 8) := hl
        have HTJ : Hid ((T.getD j ([], [])).2.length = 2) := ht
        have HW3 : Hid (W3 = ((w2.alloc (.cells #[.int .u8 ((j : Int) + 1)] 5)).alloc (.cells #[.int .u8 2] 5)).alloc (.cells #[.slice (some ⟨w2.heap.size, 0, none⟩) 1 1, .slice (some ⟨w2.heap.size + 1, 0, none⟩) 1 1, .bool false, .slice none 0 0] 29)) := HW3.out
        have hj : j < 8 := by omega
        have t1 : (1 : Int) ≤ ((j + 1 : Nat) : Int) := by omega
        have t2 : ((j + 1 : Nat) : Int) ≤ 8 := by omega
        clear f1 f2 hl ht hin
        go_wp2_with fail
        rw [← HW3.out]
        refine AP.out.mono ?_
        rintro e w4 ⟨y, rfl, hy, hg4⟩
        obtain ⟨a4, c4, rfl⟩ := hy.shape
        obtain ⟨b, o, rfl, vn, vp, c1, c2, s1, s2⟩ := hy.at j (by rw [HTL.out]; omega)
        obtain ⟨pa, pc, rfl⟩ := s2.shape
        rw [HTJ.out] at c2
        rw [HTL.out]
        have hj1 : IntKind.i64.wrap (((j + 1 : Nat) : Int) - 1) = (j : Int) := by rw [IntKind.wrap_i64]; omega
        clear hy s1 s2
        go_wp2
        go_ret
        exact ⟨rfl, grown_trans hg03 hg4⟩
      · obtain ⟨rfl, rfl⟩ := f2 hin
        clear f1 f2
        by_cases k1 : 1 ≤ k
        · have t1 : (1 : Int) ≤ (k : Int) := by omega
          have t2 : (8 : Int) < (k : Int) := by omega
          clear hin
          go_wp2_with fail
          rw [← HW3.out]
          refine AP.out.mono ?_
          rintro e w4 ⟨y, rfl, hy, hg4⟩
          obtain ⟨a4, c4, rfl⟩ := hy.shape
          go_wp2_with fail
          refine (CK.out _ hg4).mono ?_
          rintro e w5 ⟨rfl, hg5⟩
          go_wp2
          go_ret
          exact ⟨rfl, grown_trans hg03 (grown_trans hg4 hg5)⟩
        · have t1 : (k : Int) < 1 := by omega
          clear hin
          go_wp2_with fail
          rw [← HW3.out]
          refine AP.out.mono ?_
          rintro e w4 ⟨y, rfl, hy, hg4⟩
          obtain ⟨a4, c4, rfl⟩ := hy.shape
          go_wp2_with fail
          refine (CK.out _ hg4).mono ?_
          rintro e w5 ⟨rfl, hg5⟩
          go_wp2
          go_ret
          exact ⟨rfl, grown_trans hg03 (grown_trans hg4 hg5)⟩
end Go.Proofs.Ytkkcjnhfbblgiac
