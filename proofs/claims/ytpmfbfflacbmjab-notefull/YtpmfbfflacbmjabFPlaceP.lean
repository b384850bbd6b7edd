/-
  forest.place, its closure and sort.Search, forest.pairsOf, as they landed.
-/
import Derived.Test.YtpmfbfflacbmjabPart1
import Derived.Test.YtpmfbfflacbmjabFCheckP
import Derived.Test.YtpmfbfflacbmjabEqB
import Derived.Deep.RegionWith
import Derived.Handy
namespace Go.Proofs.Ytpmfbfflacbmjab
open Go.RowKit
set_option maxRecDepth 100000 in
set_option maxHeartbeats 1000000 in
theorem placeAt_any (w : World) (lb bb : Nat) (a : Option Addr) (cap : Nat) (l : FL) (u : Value) (k : List UInt8) (i : Nat) (hl : w.cell? ⟨lb, 0, none⟩ = some (.slice a l.length cap)) (hb : w.cell? ⟨bb, 0, none⟩ = some u) (hv : TensIs w (.slice a l.length cap) l) (hu : SliceIs w u k) (hi : i < l.length) :
    Calls Try.prog 73 #[.int .i64 (i : Int), .pointer (some ⟨lb, 0, none⟩), .pointer (some ⟨bb, 0, none⟩)] w fun e w' => e = .returned (.bool (!klt (l.getD i ([], [])).1 k)) ∧ w.grownBy w' none := by
  obtain ⟨pb, po, rfl, hat⟩ := hv.at i hi
  obtain ⟨vk, vv, c1, c2, s1, s2⟩ := hat
  have CM : Hid (Calls Try.prog 46 #[vk, u] w.drew fun e w' => e = .returned (.int .i64 (cmpF (l.getD i ([], [])).1 k)) ∧ w' = w.drew) := compare_any w.drew vk u _ k s1.drew hu.drew
  have HZ : Hid ((!klt (l.getD i ([], [])).1 k) = decide (0 ≤ cmpF (l.getD i ([], [])).1 k)) := by
    show _ = _
    rw [← cmpF_neg]
    generalize cmpF (l.getD i ([], [])).1 k = y
    by_cases h : y < 0
    · rw [decide_eq_true h, decide_eq_false (by omega)]; rfl
    · rw [decide_eq_false h, decide_eq_true (by omega)]; rfl
  generalize cmpF (l.getD i ([], [])).1 k = z at *
  generalize (!klt (l.getD i ([], [])).1 k) = B at *
  have t1 : (i : Int) < (l.length : Int) := by omega
  have hgd := grown_drew (grown_refl w none)
  obtain ⟨ka, kc, rfl⟩ := s1.shape
  obtain ⟨ua, uc, rfl⟩ := hu.shape
  generalize l.getD i ([], []) = P at *
  clear s1 s2 c2 hv hu
  go_enter Try.func73, Try.ntmps73
  go_wp2_with fail
  go_region_with (go_at_call 46; refine CM.out.mono ?_; rintro e w1 ⟨rfl, rfl⟩)
  all_goals
    go_wp2
    go_ret
    exact ⟨by rw [HZ.out]; rfl, hgd⟩
set_option maxRecDepth 100000 in
set_option maxHeartbeats 1000000 in
theorem tsearch_any (w : World) (lb bb : Nat) (a : Option Addr) (cap : Nat) (l : FL) (u : Value) (k : List UInt8) (n : Nat) (hl : w.cell? ⟨lb, 0, none⟩ = some (.slice a l.length cap)) (hb : w.cell? ⟨bb, 0, none⟩ = some u) (hv : TensIs w (.slice a l.length cap) l) (hu : SliceIs w u k) (hroom : l.length ≤ 8)
    (hn : n ≤ l.length) (hbit : ∀ j, j < l.length → klt (l.getD j ([], [])).1 k = decide (j < n)) :
    Calls Try.prog 72 #[.int .i64 (l.length : Int), .func (.func 73) #[] #[.pointer (some ⟨lb, 0, none⟩), .pointer (some ⟨bb, 0, none⟩)]] w fun e w' => e = .returned (.int .i64 (n : Int)) ∧ w.grownBy w' none := by
  have CL : Hid (∀ (w' : World) (i : Nat), w.grownBy w' none → i < l.length → Calls Try.prog 73 #[.int .i64 (i : Int), .pointer (some ⟨lb, 0, none⟩), .pointer (some ⟨bb, 0, none⟩)] w' fun e w'' => e = .returned (.bool (decide (n ≤ i))) ∧ w'.grownBy w'' none) := fun w' i hg hi => by
    have := placeAt_any w' lb bb a cap l u k i (hg.cell hl (by simp)) (hg.cell hb (by simp)) (hv.grown hg) (hu.grown hg) hi
    rw [hbit i hi] at this
    rw [show (decide (n ≤ i)) = !(decide (i < n)) by by_cases h : n ≤ i <;> simp [h] <;> omega]
    exact this
  clear hl hb hv hbit
  go_enter Try.func72, Try.ntmps72
  go_wp2_with fail
  go_loopw [5, 6] (fun si sj wr => ∃ i j : Nat, i ≤ n ∧ n ≤ j ∧ j ≤ l.length ∧ si = .int .i64 (i : Int) ∧ sj = .int .i64 (j : Int) ∧ w.grownBy wr none) (fun si sj _ => (intOf sj).toNat - (intOf si).toNat)
  case atStart => exact ⟨0, l.length, by omega, hn, by omega, rfl, rfl, grown_refl _ _⟩
  case round =>
    obtain ⟨i, j, hi, hj, hjl, rfl, rfl, hgr⟩ := hrel
    by_cases hlt : i < j
    · have t1 : (i : Int) < (j : Int) := by omega
      obtain ⟨h, hh⟩ : ∃ h : Nat, ((i : Int) + (j : Int)) / 2 = (h : Int) := ⟨(i + j) / 2, by omega⟩
      have b1 : i ≤ h := by omega
      have b2 : h < j := by omega
      have CH : Hid (Calls Try.prog 73 #[.int .i64 (h : Int), .pointer (some ⟨lb, 0, none⟩), .pointer (some ⟨bb, 0, none⟩)] wr fun e w'' => e = .returned (.bool (decide (n ≤ h))) ∧ wr.grownBy w'' none) := CL.out wr h hgr (by omega)
      go_wp2_with fail
      refine CH.out.mono ?_
      rintro e w1 ⟨rfl, hg1⟩
      have hgw := grown_trans hgr hg1
      by_cases hz : n ≤ h
      · rw [decide_eq_true hz]
        go_wp2_with fail
        go_roundw
        case rel =>
          first
            | exact ⟨i, h, by omega, by omega, by omega, rfl, rfl, hgw⟩
            | ((repeat apply Exists.intro); refine ⟨⟨i, h, by omega, by omega, by omega, rfl, ?_, hgw⟩, rfl⟩; go_num)
        case measure => simp [intOf]; omega
      · rw [decide_eq_false hz]
        go_wp2_with fail
        go_roundw
        case rel =>
          first
            | exact ⟨h + 1, j, by omega, by omega, by omega, by go_num, rfl, hgw⟩
            | ((repeat apply Exists.intro); refine ⟨⟨h + 1, j, by omega, by omega, by omega, ?_, rfl, hgw⟩, rfl⟩; go_num)
        case measure => simp [intOf]; omega
    · obtain rfl : i = n := by omega
      obtain rfl : j = i := by omega
      go_wp2
      go_ret
      exact ⟨rfl, hgr⟩
set_option maxRecDepth 100000 in
set_option maxHeartbeats 1000000 in
theorem fplace_any (w : World) (v u : Value) (l : FL) (k : List UInt8) (hv : TensIs w v l) (hu : SliceIs w u k) (hr : t_Rises l) (hroom : l.length ≤ 8) :
    Calls Try.prog 58 #[v, u] w fun e w' => e = .returned (.tuple #[.int .i64 (t_posF l k : Int), .int .i64 (t_nextF l k : Int)]) ∧ w.grownBy w' none := by
  obtain ⟨a, cap, rfl⟩ := hv.shape
  obtain ⟨ua, uc, rfl⟩ := hu.shape
  obtain ⟨W, hW⟩ : ∃ W : World, W = (w.alloc (.cells #[.slice a l.length cap] 26)).alloc (.cells #[.slice ua k.length uc] 23) := ⟨_, rfl⟩
  have HW : Hid (W = (w.alloc (.cells #[.slice a l.length cap] 26)).alloc (.cells #[.slice ua k.length uc] 23)) := hW
  have hg : w.grownBy W none := by rw [hW]; exact grown_alloc (World.grownBy_alloc _ _ _) _
  have c1 : W.cell? ⟨w.heap.size, 0, none⟩ = some (.slice a l.length cap) := by
    have := (World.grownBy_alloc (w.alloc (.cells #[.slice a l.length cap] 26)) (.cells #[.slice ua k.length uc] 23) none).block w.heap.size (by simp) (by simp)
    rw [heap_alloc_new, ← hW] at this
    simp [World.cell?, this]
  have c2 : W.cell? ⟨w.heap.size + 1, 0, none⟩ = some (.slice ua k.length uc) := by
    have := heap_alloc_new (w.alloc (.cells #[.slice a l.length cap] 26)) (.cells #[.slice ua k.length uc] 23)
    rw [World.size_alloc, ← hW] at this
    simp [World.cell?, this]
  have hpl := t_pos_le l k
  have SE : Hid (Calls Try.prog 72 #[.int .i64 (l.length : Int), .func (.func 73) #[] #[.pointer (some ⟨w.heap.size, 0, none⟩), .pointer (some ⟨w.heap.size + 1, 0, none⟩)]] W fun e w' => e = .returned (.int .i64 (t_posF l k : Int)) ∧ W.grownBy w' none) := tsearch_any W w.heap.size (w.heap.size + 1) a cap l _ k (t_posF l k) c1 c2 (hv.grown hg) (hu.grown hg) hroom hpl (t_klt_pos l k hr)
  have HN : Hid (t_nextF l k = if t_hasF l k = true then t_posF l k + 1 else t_posF l k) := rfl
  have HH : Hid (t_hasF l k = decide (t_posF l k < l.length ∧ (l.getD (t_posF l k) ([], [])).1 = k)) := rfl
  generalize t_nextF l k = nx at *
  generalize t_hasF l k = B at *
  generalize t_posF l k = n at *
  clear hr
  by_cases hlt : n < l.length
  · obtain ⟨pb, po, rfl, hat⟩ := hv.at n hlt
    obtain ⟨vk, vv, d1, d2, s1, s2⟩ := hat.grown hg
    have t1 : (n : Int) < (l.length : Int) := by omega
    have EQ : Hid (∀ w', W.grownBy w' none → Calls Try.prog 54 #[vk, .slice ua k.length uc] w' fun e w'' => e = .returned (.bool B) ∧ w'' = w') := fun w' hgw => by
      have := equal_any w' vk _ _ _ (s1.grown hgw) ((hu.grown hg).grown hgw)
      rw [HH.out, show decide (n < l.length ∧ (l.getD n ([], [])).1 = k) = decide ((l.getD n ([], [])).1 = k) by simp [hlt]]
      exact this
    obtain ⟨ka, kc, rfl⟩ := s1.shape
    generalize l.getD n ([], []) = P at *
    clear hv hu s1 s2 d2 hat hW HH
    go_enter Try.func58, Try.ntmps58
    go_wp2_with fail
    rw [← HW.out]
    go_wp2_with fail
    refine SE.out.mono ?_
    rintro e w1 ⟨rfl, hg1⟩
    have e1 := hg1.cell c1 (by simp)
    have e2 := hg1.cell c2 (by simp)
    have e3 := hg1.cell d1 (by simp)
    clear c1 c2 d1
    go_wp2_with fail
    go_quiet (first | (go_at_call 54; exact Calls.quiet_of_same (EQ.out _ (grown_drewN hg1 _))))
    have hgw := grown_trans hg hg1
    cases B with
    | true =>
      have HX : Hid (nx = n + 1) := by show _ = _; rw [HN.out, if_pos rfl]
      go_wp2
      go_ret2
      exact ⟨by rw [HX.out]; go_num, grown_drewN hgw _⟩
    | false =>
      have HX : Hid (nx = n) := by show _ = _; rw [HN.out, if_neg (by simp)]
      go_wp2
      go_ret2
      exact ⟨by rw [HX.out]; rfl, grown_drewN hgw _⟩
  · have HX : Hid (nx = n) := by
      show _ = _
      rw [HN.out, HH.out, if_neg (by simp; omega)]
    have t1 : ¬ (n : Int) < (l.length : Int) := by omega
    clear hv hu hW HH
    go_enter Try.func58, Try.ntmps58
    go_wp2_with fail
    rw [← HW.out]
    go_wp2_with fail
    refine SE.out.mono ?_
    rintro e w1 ⟨rfl, hg1⟩
    have e1 := hg1.cell c1 (by simp)
    have e2 := hg1.cell c2 (by simp)
    clear c1 c2
    have hgw := grown_trans hg hg1
    go_wp2_with fail
    go_quiet (fail)
    all_goals
      go_wp2
      go_ret2
      exact ⟨by rw [HX.out]; rfl, grown_drewN hgw _⟩
end Go.Proofs.Ytpmfbfflacbmjab
