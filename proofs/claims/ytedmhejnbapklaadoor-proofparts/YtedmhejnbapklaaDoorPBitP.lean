/-
  The closure of proof.partedPairs, and sort.Search with it, as they landed.
-/
import Derived.Test.YtedmhejnbapklaaDoorTBitP
namespace Go.Proofs.YtedmhejnbapklaaDoor
open Go.RowKit
set_option maxRecDepth 100000 in
set_option maxHeartbeats 1000000 in
theorem pbitAt_any (w : World) (lb bb : Nat) (a : Option Addr) (cap : Nat) (l : PL) (b i : Nat) (hl : w.cell? ⟨lb, 0, none⟩ = some (.slice a l.length cap)) (hb : w.cell? ⟨bb, 0, none⟩ = some (.int .i64 (b : Int))) (hv : PairsIs w (.slice a l.length cap) l) (hT : Tree l) (hi : i < l.length) (hb145 : b < 145) :
    Calls Tryd.prog 72 #[.int .i64 (i : Int), .pointer (some ⟨lb, 0, none⟩), .pointer (some ⟨bb, 0, none⟩)] w fun e w' => e = .returned (.bool (kbit (l.getD i ([], [])).1 b)) ∧ w.grownBy w' none := by
  obtain ⟨pb, po, rfl, hat⟩ := hv.at i hi
  obtain ⟨vk, vv, c1, c2, s1, s2⟩ := hat
  have hk := hT.key i hi
  have BT : Hid (Calls Tryd.prog 25 #[vk, .int .i64 (b : Int)] w.drew fun e w' => e = .returned (.tuple #[.bool (kbit (l.getD i ([], [])).1 b), .int .i64 0]) ∧ w.drew.grownBy w' none) := BitOK.of bit_ok w.drew vk _ b s1.drew hk hb145
  generalize kbit (l.getD i ([], [])).1 b = z at *
  have t1 : (i : Int) < (l.length : Int) := by omega
  have hgd := grown_drew (grown_refl w none)
  obtain ⟨ka, kc, rfl⟩ := s1.shape
  generalize l.getD i ([], []) = P at *
  clear s1 s2 c2 hv hT
  go_enter Tryd.func72, Tryd.ntmps72
  go_wp2_with fail
  go_region_with (go_at_call 25; refine BT.out.mono ?_; rintro e w1 ⟨rfl, hg1⟩)
  all_goals
    go_wp2
    go_ret
    exact ⟨rfl, grown_trans hgd hg1⟩
set_option maxRecDepth 100000 in
set_option maxHeartbeats 1000000 in
theorem psearch_any (w : World) (lb bb : Nat) (a : Option Addr) (cap : Nat) (l : PL) (b n : Nat) (hl : w.cell? ⟨lb, 0, none⟩ = some (.slice a l.length cap)) (hb : w.cell? ⟨bb, 0, none⟩ = some (.int .i64 (b : Int))) (hv : PairsIs w (.slice a l.length cap) l) (hT : Tree l) (hb145 : b < 145)
    (hn : n ≤ l.length) (hbit : ∀ j, j < l.length → kbit (l.getD j ([], [])).1 b = decide (n ≤ j)) :
    Calls Tryd.prog 71 #[.int .i64 (l.length : Int), .func (.func 72) #[] #[.pointer (some ⟨lb, 0, none⟩), .pointer (some ⟨bb, 0, none⟩)]] w fun e w' => e = .returned (.int .i64 (n : Int)) ∧ w.grownBy w' none := by
  have CL : Hid (∀ (w' : World) (i : Nat), w.grownBy w' none → i < l.length → Calls Tryd.prog 72 #[.int .i64 (i : Int), .pointer (some ⟨lb, 0, none⟩), .pointer (some ⟨bb, 0, none⟩)] w' fun e w'' => e = .returned (.bool (decide (n ≤ i))) ∧ w'.grownBy w'' none) := fun w' i hg hi => by
    have := pbitAt_any w' lb bb a cap l b i (hg.cell hl (by simp)) (hg.cell hb (by simp)) (hv.grown hg) hT hi hb145
    rw [hbit i hi] at this
    exact this
  have hroom := hT.room
  clear hl hb hv hT hbit
  go_enter Tryd.func71, Tryd.ntmps71
  go_wp2_with fail
  go_loopw [5, 6] (fun si sj wr => ∃ i j : Nat, i ≤ n ∧ n ≤ j ∧ j ≤ l.length ∧ si = .int .i64 (i : Int) ∧ sj = .int .i64 (j : Int) ∧ w.grownBy wr none) (fun si sj _ => (intOf sj).toNat - (intOf si).toNat)
  case atStart => exact ⟨0, l.length, by omega, hn, by omega, rfl, rfl, grown_refl _ _⟩
  case round =>
    obtain ⟨i, j, hi, hj, hjl, rfl, rfl, hgr⟩ := hrel
    by_cases hlt : i < j
    · have t1 : (i : Int) < (j : Int) := by omega
      obtain ⟨h, hh⟩ : ∃ h : Nat, ((i : Int) + (j : Int)) / 2 = (h : Int) := ⟨(i + j) / 2, by omega⟩
      have b1 : i ≤ h := by omega
      have b2 : h < j := by omega
      have CH : Hid (Calls Tryd.prog 72 #[.int .i64 (h : Int), .pointer (some ⟨lb, 0, none⟩), .pointer (some ⟨bb, 0, none⟩)] wr fun e w'' => e = .returned (.bool (decide (n ≤ h))) ∧ wr.grownBy w'' none) := CL.out wr h hgr (by omega)
      go_wp2_with fail
      refine CH.out.mono ?_
      rintro e w1 ⟨rfl, hg1⟩
      have hgw := grown_trans hgr hg1
      by_cases hz : n ≤ h
      · rw [decide_eq_true hz]
        go_wp2_with fail
        go_roundw
        case rel =>
          first
            | exact ⟨i, h, by omega, by omega, by omega, rfl, rfl, hgw⟩
            | ((repeat apply Exists.intro); refine ⟨⟨i, h, by omega, by omega, by omega, rfl, ?_, hgw⟩, rfl⟩; go_num)
        case measure => simp [intOf]; omega
      · rw [decide_eq_false hz]
        go_wp2_with fail
        go_roundw
        case rel =>
          first
            | exact ⟨h + 1, j, by omega, by omega, by omega, by go_num, rfl, hgw⟩
            | ((repeat apply Exists.intro); refine ⟨⟨h + 1, j, by omega, by omega, by omega, ?_, rfl, hgw⟩, rfl⟩; go_num)
        case measure => simp [intOf]; omega
    · obtain rfl : i = n := by omega
      obtain rfl : j = i := by omega
      go_wp2
      go_ret
      exact ⟨rfl, hgr⟩
end Go.Proofs.YtedmhejnbapklaaDoor
