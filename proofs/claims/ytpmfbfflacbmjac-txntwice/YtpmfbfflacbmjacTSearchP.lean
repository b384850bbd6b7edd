/-
  tree.compareKey, slices.BinarySearchFunc at pairs, tree.place, tree.checkWith, as they landed.
-/
import Derived.Test.YtpmfbfflacbmjacPart4
import Derived.Test.YtpmfbfflacbmjacPart1
import Derived.Handy
namespace Go.Proofs.Ytpmfbfflacbmjac
open Go.RowKit
set_option maxRecDepth 100000 in
set_option maxHeartbeats 1000000 in
theorem checkWith_any (w : World) (v u : Value) (l : PL) (k : List UInt8) (hv : PairsIs w v l) (hu : SliceIs w u k) (hl : Fits l) :
    Calls Try.prog 62 #[v, u] w fun e w' => e = .returned (.int .i64 (getE l k)) ∧ w.grownBy w' none := by
  have CL : Hid (Calls Try.prog 58 #[v] w fun e w' => e = .returned (.int .i64 (pairsFaultF l)) ∧ w.grownBy w' none) := tcheck_ok w v l hv hl
  have CK : Hid CheckOK := check_ok
  obtain ⟨a, cap, rfl⟩ := hv.shape
  obtain ⟨ka, kcap, rfl⟩ := hu.shape
  have HE : Hid (getE l k = if pairsFaultF l = 0 then keyFaultF k.length else pairsFaultF l) := by show _ = _; rw [getE]
  clear hv hu
  generalize getE l k = E at *
  generalize pairsFaultF l = z at *
  go_enter Try.func62, Try.ntmps62
  go_wp2_with fail
  refine CL.out.mono ?_
  rintro e w1 ⟨rfl, hg1⟩
  by_cases hz : z = 0
  · have HE2 : Hid (E = keyFaultF k.length) := by show _ = _; rw [HE.out, if_pos hz]
    subst hz
    clear HE
    go_wp2_with fail
    refine (CK.out _ _ _ _).mono ?_
    rintro e w2 ⟨rfl, hg2⟩
    go_wp2
    go_ret
    exact ⟨by rw [HE2.out]; rfl, grown_trans hg1 hg2⟩
  · have HE2 : Hid (E = z) := by show _ = _; rw [HE.out, if_neg hz]
    have hz' : (z != 0) = true := by simpa using hz
    clear HE
    go_wp2
    go_ret
    exact ⟨by rw [HE2.out]; rfl, hg1⟩
set_option maxRecDepth 100000 in
set_option maxHeartbeats 1000000 in
theorem compareKey_any (w : World) (vk vv u : Value) (q k : List UInt8) (hq : SliceIs w vk q) (hu : SliceIs w u k) :
    Calls Try.prog 76 #[.agg #[vk, vv], u] w fun e w' => e = .returned (.int .i64 (cmpF q k)) ∧ w.grownBy w' none := by
  have CM : Hid (∀ w', w.grownBy w' none → Calls Try.prog 52 #[vk, u] w' fun e w'' => e = .returned (.int .i64 (cmpF q k)) ∧ w'' = w') := fun w' hg => compare_any w' vk u q k (hq.grown hg) (hu.grown hg)
  obtain ⟨qa, qcap, rfl⟩ := hq.shape
  obtain ⟨ka, kcap, rfl⟩ := hu.shape
  clear hq hu
  generalize cmpF q k = z at *
  go_enter Try.func76, Try.ntmps76
  go_wp2_with fail
  refine (CM.out _ (World.grownBy_alloc _ _ _)).mono ?_
  rintro e w1 ⟨rfl, rfl⟩
  go_wp2
  go_ret
  exact ⟨rfl, World.grownBy_alloc _ _ _⟩
set_option maxRecDepth 100000 in
set_option maxHeartbeats 1000000 in
theorem bsearch_any (w : World) (v u : Value) (l : PL) (k : List UInt8) (hv : PairsIs w v l) (hu : SliceIs w u k) (hr : Rises l) (hl : l.length ≤ 60) :
    Calls Try.prog 75 #[v, u, .func (.func 76) #[] #[]] w fun e w' => e = .returned (.tuple #[.int .i64 (posF l k : Int), .bool (hasF l k)]) ∧ w.grownBy w' none := by
  obtain ⟨a, cap, rfl⟩ := hv.shape
  have hpl := pos_le l k
  have HK : Hid (∀ j, j < l.length → klt (l.getD j ([], [])).1 k = decide (j < posF l k)) := klt_pos l k hr
  have HH : Hid (hasF l k = decide (posF l k < l.length ∧ (l.getD (posF l k) ([], [])).1 = k)) := rfl
  generalize posF l k = n at *
  generalize hasF l k = B at *
  go_enter Try.func75, Try.ntmps75
  go_wp2_with fail
  go_loopw [9, 10] (fun si sj wr => ∃ i j : Nat, i ≤ n ∧ n ≤ j ∧ j ≤ l.length ∧ si = .int .i64 (i : Int) ∧ sj = .int .i64 (j : Int) ∧ w.grownBy wr none) (fun si sj _ => (intOf sj).toNat - (intOf si).toNat)
  case atStart => exact ⟨0, l.length, by omega, hpl, by omega, rfl, rfl, grown_refl _ _⟩
  case round =>
    obtain ⟨i, j, hi, hj, hjl, rfl, rfl, hgr⟩ := hrel
    by_cases hlt : i < j
    · have t1 : (i : Int) < (j : Int) := by omega
      obtain ⟨h, hh⟩ : ∃ h : Nat, ((i : Int) + (j : Int)) / 2 = (h : Int) := ⟨(i + j) / 2, by omega⟩
      have b1 : i ≤ h := by omega
      have b2 : h < j := by omega
      have t2 : (h : Int) < (l.length : Int) := by omega
      obtain ⟨b, o, rfl, hat⟩ := hv.at h (by omega)
      obtain ⟨vk, vv, c1, c2, s1, s2⟩ := hat.grown hgr
      have hk1 := HK.out h (by omega)
      rw [← cmpF_neg] at hk1
      have CK : Hid (Calls Try.prog 76 #[.agg #[vk, vv], u] wr fun e w' => e = .returned (.int .i64 (cmpF (l.getD h ([], [])).1 k)) ∧ wr.grownBy w' none) := compareKey_any wr vk vv u _ k s1 (hu.grown hgr)
      generalize cmpF (l.getD h ([], [])).1 k = z at *
      generalize l.getD h ([], []) = P at *
      obtain ⟨ka, kc, rfl⟩ := s1.shape
      obtain ⟨va, vc, rfl⟩ := s2.shape
      clear s1 s2 hat
      go_wp2_with fail
      refine CK.out.mono ?_
      rintro e w1 ⟨rfl, hg1⟩
      have hgw := grown_trans hgr hg1
      by_cases hz : z < 0
      · have hn : h < n := by rw [decide_eq_true hz] at hk1; simpa using hk1.symm
        clear hk1 CK c1 c2
        go_wp2_with fail
        go_roundw
        case rel =>
          first
            | exact ⟨h + 1, j, by omega, by omega, by omega, by go_num, rfl, hgw⟩
            | ((repeat apply Exists.intro); refine ⟨⟨h + 1, j, by omega, by omega, by omega, ?_, rfl, hgw⟩, rfl⟩; go_num)
        case measure => simp [intOf]; omega
      · have hn : n ≤ h := by rw [decide_eq_false hz] at hk1; have := hk1.symm; simpa using this
        have hz' : 0 ≤ z := by omega
        clear hk1 CK c1 c2 hz
        go_wp2_with fail
        go_roundw
        case rel =>
          first
            | exact ⟨i, h, by omega, by omega, by omega, rfl, rfl, hgw⟩
            | ((repeat apply Exists.intro); refine ⟨⟨i, h, by omega, by omega, by omega, rfl, ?_, hgw⟩, rfl⟩; go_num)
        case measure => simp [intOf]; omega
    · obtain rfl : i = n := by omega
      obtain rfl : j = i := by omega
      by_cases hjn : j < l.length
      · have t2 : (j : Int) < (l.length : Int) := by omega
        obtain ⟨b, o, rfl, hat⟩ := hv.at j hjn
        obtain ⟨vk, vv, c1, c2, s1, s2⟩ := hat.grown hgr
        have CK : Hid (Calls Try.prog 76 #[.agg #[vk, vv], u] wr fun e w' => e = .returned (.int .i64 (cmpF (l.getD j ([], [])).1 k)) ∧ wr.grownBy w' none) := compareKey_any wr vk vv u _ k s1 (hu.grown hgr)
        have HB : Hid (B = (cmpF (l.getD j ([], [])).1 k == 0)) := by show _ = _; rw [HH.out, cmpF_zero]; simp [hjn]
        clear HH
        generalize cmpF (l.getD j ([], [])).1 k = z at *
        generalize l.getD j ([], []) = P at *
        obtain ⟨ka, kc, rfl⟩ := s1.shape
        obtain ⟨va, vc, rfl⟩ := s2.shape
        clear s1 s2 hat
        go_wp2_with fail
        refine CK.out.mono ?_
        rintro e w1 ⟨rfl, hg1⟩
        go_wp2
        go_ret2
        exact ⟨by rw [HB.out]; rfl, grown_trans hgr hg1⟩
      · have t2 : ¬ (j : Int) < (l.length : Int) := by omega
        have HB : Hid (B = false) := by show _ = _; rw [HH.out]; simp [hjn]
        clear HH
        go_wp2
        go_ret2
        exact ⟨by rw [HB.out]; rfl, hgr⟩
set_option maxRecDepth 100000 in
set_option maxHeartbeats 1000000 in
theorem place_any (w : World) (v u : Value) (l : PL) (k : List UInt8) (hv : PairsIs w v l) (hu : SliceIs w u k) (hr : Rises l) (hl : l.length ≤ 60) :
    Calls Try.prog 60 #[v, u] w fun e w' => e = .returned (.tuple #[.int .i64 (posF l k : Int), .int .i64 (nextF l k : Int)]) ∧ w.grownBy w' none := by
  have BS : Hid (Calls Try.prog 75 #[v, u, .func (.func 76) #[] #[]] w fun e w' => e = .returned (.tuple #[.int .i64 (posF l k : Int), .bool (hasF l k)]) ∧ w.grownBy w' none) := bsearch_any w v u l k hv hu hr hl
  have HN : Hid (nextF l k = if hasF l k = true then posF l k + 1 else posF l k) := rfl
  have hp := pos_le l k
  obtain ⟨a, cap, rfl⟩ := hv.shape
  obtain ⟨ka, kcap, rfl⟩ := hu.shape
  generalize posF l k = n at *
  generalize nextF l k = m at *
  generalize hasF l k = B at *
  clear hv hu
  go_enter Try.func60, Try.ntmps60
  go_wp2_with fail
  refine BS.out.mono ?_
  rintro e w1 ⟨rfl, hg1⟩
  cases B with
  | true =>
    have HM : Hid (m = n + 1) := by show _ = _; rw [HN.out, if_pos rfl]
    clear HN
    go_wp2
    go_ret2
    exact ⟨by rw [HM.out]; go_num, hg1⟩
  | false =>
    have HM : Hid (m = n) := by show _ = _; rw [HN.out, if_neg (by simp)]
    clear HN
    go_wp2
    go_ret2
    exact ⟨by rw [HM.out]; rfl, hg1⟩
end Go.Proofs.Ytpmfbfflacbmjac
