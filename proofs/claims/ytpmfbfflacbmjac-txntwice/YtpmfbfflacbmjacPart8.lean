/-
  Texts of this proof, joined: FNameP, FCheckP, FPlaceP, FCpP.
-/
import Derived.Test.YtpmfbfflacbmjacPart1
import Derived.Test.YtpmfbfflacbmjacBase
import Derived.Test.YtpmfbfflacbmjacPart4
import Derived.Test.YtpmfbfflacbmjacPart7
import Derived.Test.YtpmfbfflacbmjacEqB
import Derived.Deep.RegionWith
import Derived.Handy
/-
  forest.Name, as it landed, keeps P5.1.
-/
namespace Go.Proofs.Ytpmfbfflacbmjac
open Go.RowKit
set_option maxRecDepth 100000 in
set_option maxHeartbeats 1000000 in
theorem fnm_any (w : World) (a : Option Addr) (n cap : Nat) : Calls Try.prog 55 #[.slice a n cap] w fun e w' => e = .returned (.int .i64 (nameFaultF n)) ∧ w' = w := by
  have HE : Hid (nameFaultF n = if 1 ≤ n ∧ n ≤ 8 then 0 else 1) := rfl
  generalize nameFaultF n = z at *
  by_cases h1 : 1 ≤ n
  · by_cases h2 : n ≤ 8
    · have HZ : Hid (z = 0) := by show _ = _; rw [HE.out, if_pos ⟨h1, h2⟩]
      have t1 : ¬ (n : Int) < 1 := by omega
      have t2 : ¬ (n : Int) > 8 := by omega
      go_enter Try.func55, Try.ntmps55
      go_wp2
      go_ret
      exact ⟨by rw [HZ.out]; rfl, rfl⟩
    · have HZ : Hid (z = 1) := by show _ = _; rw [HE.out, if_neg (by omega)]
      have t1 : ¬ (n : Int) < 1 := by omega
      have t2 : (n : Int) > 8 := by omega
      go_enter Try.func55, Try.ntmps55
      go_wp2
      go_ret
      exact ⟨by rw [HZ.out]; rfl, rfl⟩
  · have HZ : Hid (z = 1) := by show _ = _; rw [HE.out, if_neg (by omega)]
    have t1 : (n : Int) < 1 := by omega
    go_enter Try.func55, Try.ntmps55
    go_wp2
    go_ret
    exact ⟨by rw [HZ.out]; rfl, rfl⟩
theorem fname_ok : FNameOK := fun w a n cap => (fnm_any w a n cap).mono fun e w' h => by
  obtain ⟨h1, rfl⟩ := h
  exact ⟨h1, grown_refl _ _⟩
end Go.Proofs.Ytpmfbfflacbmjac

/-
  forest.Check, as it landed, keeps P5.2.
-/
namespace Go.Proofs.Ytpmfbfflacbmjac
open Go.RowKit
set_option maxRecDepth 100000 in
set_option maxHeartbeats 1000000 in
theorem checkTenant_any (w : World) (vn vp : Value) (t : Tn) (h1 : SliceIs w vn t.1) (h2 : PairsIs w vp t.2) (hf : Fits t.2) :
    Calls Try.prog 65 #[.agg #[vn, vp]] w fun e w' => e = .returned (.int .i64 (tenFaultF t)) ∧ w.grownBy w' none := by
  obtain ⟨na, nc, rfl⟩ := h1.shape
  obtain ⟨pa, pc, rfl⟩ := h2.shape
  have HE : Hid (tenFaultF t = if nameFaultF t.1.length = 0 then (if t.2.length = 0 then 4 else pairsFaultF t.2) else nameFaultF t.1.length) := rfl
  obtain ⟨W, hW⟩ : ∃ W : World, W = w.alloc (.cells #[.slice na t.1.length nc, .slice pa t.2.length pc] 113) := ⟨_, rfl⟩
  have HW : Hid (W = w.alloc (.cells #[.slice na t.1.length nc, .slice pa t.2.length pc] 113)) := hW
  have hg : w.grownBy W none := by rw [hW]; exact World.grownBy_alloc _ _ _
  have TC : Hid (Calls Try.prog 58 #[.slice pa t.2.length pc] W fun e w' => e = .returned (.int .i64 (pairsFaultF t.2)) ∧ W.grownBy w' none) := tcheck_ok W _ _ (h2.grown hg) hf
  obtain ⟨cA, cB, _, _⟩ := pair_room (grown_refl W none) (by rw [hW]; exact heap_alloc_new w _ : W.heap[w.heap.size]? = some (.cells #[.slice na t.1.length nc, .slice pa t.2.length pc] 113))
  generalize tenFaultF t = E at *
  generalize pairsFaultF t.2 = z at *
  clear h1 h2 hW
  go_enter Try.func65, Try.ntmps65
  go_wp2_with fail
  rw [← HW.out]
  go_wp2_with fail
  refine (fnm_any _ _ _ _).mono ?_
  rintro e w1 ⟨rfl, rfl⟩
  by_cases hn : nameFaultF t.1.length = 0
  · rw [hn]
    by_cases h0 : t.2.length = 0
    · have HZ : Hid (E = 4) := by show _ = _; rw [HE.out, if_pos hn, if_pos h0]
      have t0 : ((t.2.length : Int) == 0) = true := by simp [h0]
      clear HE hn TC
      generalize t.2.length = m at *
      go_wp2
      go_ret
      exact ⟨by rw [HZ.out]; rfl, hg⟩
    · have HZ : Hid (E = z) := by show _ = _; rw [HE.out, if_pos hn, if_neg h0]
      have t0 : ((t.2.length : Int) == 0) = false := by simpa using h0
      clear HE hn
      generalize t.2.length = m at *
      go_wp2_with fail
      refine TC.out.mono ?_
      rintro e w2 ⟨rfl, hg2⟩
      go_wp2
      go_ret
      exact ⟨by rw [HZ.out]; rfl, grown_trans hg hg2⟩
  · have HZ : Hid (E = nameFaultF t.1.length) := by show _ = _; rw [HE.out, if_neg hn]
    generalize nameFaultF t.1.length = y at *
    have hy : (y != 0) = true := by simpa using hn
    clear HE
    go_wp2
    go_ret
    exact ⟨by rw [HZ.out]; rfl, hg⟩
set_option maxRecDepth 100000 in
set_option maxHeartbeats 1000000 in
theorem fcheck_ok : FCheckOK := by
  intro w v l hv hl
  obtain ⟨a, cap, rfl⟩ := hv.shape
  have hll := hl.len
  by_cases h8 : 8 < l.length
  · rw [forestE_long l h8]
    have t1 : (l.length : Int) > 8 := by omega
    go_enter Try.func45, Try.ntmps45
    go_wp2
    go_ret
    exact ⟨rfl, grown_refl _ _⟩
  · have t1 : ¬ (l.length : Int) > 8 := by omega
    go_enter Try.func45, Try.ntmps45
    go_wp2_with fail
    go_loopw [11] (fun i wr => ∃ m : Nat, m ≤ l.length ∧ i = .int .i64 (m : Int) ∧ w.grownBy wr none ∧ ∀ j, j < m → tenAt l j = 0) (fun i _ => l.length - (intOf i).toNat)
    case atStart => exact ⟨0, by omega, rfl, grown_refl _ _, fun j hj => by omega⟩
    case round =>
      obtain ⟨m, hm, rfl, hgr, hok⟩ := hrel
      have HOK : Hid (∀ j, j < m → tenAt l j = 0) := hok
      clear hok
      by_cases hlt : m < l.length
      · obtain ⟨b, o, rfl, hat⟩ := hv.at m hlt
        obtain ⟨vk, vv, c1, c2, s1, s2⟩ := hat.grown hgr
        generalize hP : l.getD m ([], []) = P at s1 s2
        have HA : Hid (tenAt l m = if tenFaultF P = 0 then (if 0 < m ∧ klt (l.getD (m - 1) ([], [])).1 P.1 = false then 3 else 0) else tenFaultF P) := by
          show _ = _
          unfold tenAt
          rw [hP]
        have hfp : Fits P.2 := by rw [← hP]; exact (hl.each m hlt).2
        obtain ⟨ak, ck, rfl⟩ := s1.shape
        obtain ⟨av, cv, rfl⟩ := s2.shape
        have CT : Hid (Calls Try.prog 65 #[.agg #[.slice ak P.1.length ck, .slice av P.2.length cv]] (wr.alloc (.cells #[.slice ak P.1.length ck, .slice av P.2.length cv] 113)) fun e w' => e = .returned (.int .i64 (tenFaultF P)) ∧ (wr.alloc (.cells #[.slice ak P.1.length ck, .slice av P.2.length cv] 113)).grownBy w' none) := checkTenant_any _ _ _ P (s1.grown (World.grownBy_alloc _ _ _)) (s2.grown (World.grownBy_alloc _ _ _)) hfp
        clear hat hP s2
        have i1 : (m : Int) < (l.length : Int) := by omega
        go_wp2_with fail
        have hga : wr.grownBy (wr.alloc (.cells #[.slice ak P.1.length ck, .slice av P.2.length cv] 113)) none := World.grownBy_alloc _ _ _
        refine CT.out.mono ?_
        rintro e w1 ⟨rfl, hg1⟩
        have hg2 := grown_trans hga hg1
        obtain ⟨cA, _, _, _⟩ := pair_room hg1 (heap_alloc_new wr (.cells #[.slice ak P.1.length ck, .slice av P.2.length cv] 113))
        by_cases hf : tenFaultF P = 0
        · rw [hf]
          have s1 := s1.grown hg2
          have hgw := grown_trans hgr hg2
          clear c1 c2
          by_cases h0 : m = 0
          · subst h0
            have HZ : Hid (tenAt l 0 = 0) := by show _ = _; rw [HA.out, if_pos hf, if_neg (by simp)]
            go_wp2_with fail
            go_quiet (fail)
            all_goals go_wp2_with fail
            go_roundw
            case rel =>
              have hs : ∀ j, j < 0 + 1 → tenAt l j = 0 := fun j hj => by
                obtain rfl : j = 0 := by omega
                exact HZ.out
              exact ⟨1, by omega, rfl, grown_drewN hgw _, hs⟩
            case measure => simp [intOf]; omega
          · obtain ⟨n, rfl⟩ : ∃ n, m = n + 1 := ⟨m - 1, by omega⟩
            obtain ⟨b2, o2, e, hat⟩ := hv.at n (by omega)
            cases e
            obtain ⟨qk, qv, d1, d2, r1, r2⟩ := hat.grown hgw
            clear d2 r2 hat
            have HA2 : Hid (tenAt l (n + 1) = if klt (l.getD n ([], [])).1 P.1 = false then 3 else 0) := by
              show _ = _
              rw [HA.out, if_pos hf]
              simp
            generalize (l.getD n ([], [])).1 = q at *
            have i0 : IntKind.i64.wrap (n : Int) = (n : Int) := by rw [IntKind.wrap_i64]; omega
            have R1 : Hid (SliceIs w1 qk q) := r1
            have S1 : Hid (SliceIs w1 (.slice ak P.1.length ck) P.1) := s1
            have i2 : (n : Int) < (l.length : Int) := by omega
            have i3 : ((n + 1 : Nat) : Int) > 0 := by omega
            have hcr := cmpF_neg q P.1
            have CM : Hid (∀ k, Calls Try.prog 52 #[qk, .slice ak P.1.length ck] (w1.drewN k) fun e w' => e = .returned (.int .i64 (cmpF q P.1)) ∧ w' = w1.drewN k) := fun k => compare_any _ _ _ _ _ (R1.out.drewN k) (S1.out.drewN k)
            generalize cmpF q P.1 = z at *
            have HCR : Hid (decide (z < 0) = klt q P.1) := hcr
            clear s1 r1 hcr
            go_wp2_with fail
            go_quiet (first | (go_at_call 52; exact Calls.quiet_of_same (CM.out _)))
            cases hk : klt q P.1 with
            | true =>
              have HZ : Hid (tenAt l (n + 1) = 0) := by show _ = _; rw [HA2.out, hk]; simp
              have hz : z < 0 := by have := HCR.out; rw [hk] at this; simpa using this
              clear hk
              go_wp2_with fail
              go_roundw
              case rel =>
                have hs : ∀ j, j < n + 1 + 1 → tenAt l j = 0 := fun j hj => by
                  by_cases hjm : j = n + 1
                  · subst hjm; exact HZ.out
                  · exact HOK.out j (by omega)
                first
                  | exact ⟨n + 1 + 1, by omega, by go_num, grown_drewN hgw _, hs⟩
                  | ((repeat apply Exists.intro); refine ⟨⟨n + 1 + 1, by omega, ?_, grown_drewN hgw _, hs⟩, rfl⟩; go_num)
              case measure => simp [intOf]; omega
            | false =>
              have HZ : Hid (forestE l = 3) := by
                have e : tenAt l (n + 1) = 3 := by rw [HA2.out, hk]; simp
                show _ = _
                rw [← e]
                exact forestE_at l (n + 1) hlt (by omega) HOK.out (by rw [e]; decide)
              have hz : 0 ≤ z := by have := HCR.out; rw [hk] at this; simpa using this
              clear hk
              go_wp2
              go_ret
              exact ⟨by rw [HZ.out]; rfl, grown_drewN hgw _⟩
        · have HF : Hid (forestE l = tenFaultF P) := by
            have e : tenAt l m = tenFaultF P := by rw [HA.out, if_neg hf]
            show _ = _
            rw [← e]
            exact forestE_at l m hlt (by omega) HOK.out (by rw [e]; exact hf)
          generalize tenFaultF P = z at *
          have hz : (z != 0) = true := by simpa using hf
          go_wp2
          go_ret
          exact ⟨by rw [HF.out]; rfl, grown_trans hgr hg2⟩
      · obtain rfl : m = l.length := by omega
        have HP : Hid (forestE l = 0) := forestE_none l (by omega) HOK.out
        go_wp2
        go_ret
        exact ⟨by rw [HP.out]; rfl, hgr⟩
end Go.Proofs.Ytpmfbfflacbmjac

/-
  forest.place, its closure and sort.Search, forest.pairsOf, as they landed.
-/
namespace Go.Proofs.Ytpmfbfflacbmjac
open Go.RowKit
set_option maxRecDepth 100000 in
set_option maxHeartbeats 1000000 in
theorem placeAt_any (w : World) (lb bb : Nat) (a : Option Addr) (cap : Nat) (l : FL) (u : Value) (k : List UInt8) (i : Nat) (hl : w.cell? ⟨lb, 0, none⟩ = some (.slice a l.length cap)) (hb : w.cell? ⟨bb, 0, none⟩ = some u) (hv : TensIs w (.slice a l.length cap) l) (hu : SliceIs w u k) (hi : i < l.length) :
    Calls Try.prog 73 #[.int .i64 (i : Int), .pointer (some ⟨lb, 0, none⟩), .pointer (some ⟨bb, 0, none⟩)] w fun e w' => e = .returned (.bool (!klt (l.getD i ([], [])).1 k)) ∧ w.grownBy w' none := by
  obtain ⟨pb, po, rfl, hat⟩ := hv.at i hi
  obtain ⟨vk, vv, c1, c2, s1, s2⟩ := hat
  have CM : Hid (Calls Try.prog 52 #[vk, u] w.drew fun e w' => e = .returned (.int .i64 (cmpF (l.getD i ([], [])).1 k)) ∧ w' = w.drew) := compare_any w.drew vk u _ k s1.drew hu.drew
  have HZ : Hid ((!klt (l.getD i ([], [])).1 k) = decide (0 ≤ cmpF (l.getD i ([], [])).1 k)) := by
    show _ = _
    rw [← cmpF_neg]
    generalize cmpF (l.getD i ([], [])).1 k = y
    by_cases h : y < 0
    · rw [decide_eq_true h, decide_eq_false (by omega)]; rfl
    · rw [decide_eq_false h, decide_eq_true (by omega)]; rfl
  generalize cmpF (l.getD i ([], [])).1 k = z at *
  generalize (!klt (l.getD i ([], [])).1 k) = B at *
  have t1 : (i : Int) < (l.length : Int) := by omega
  have hgd := grown_drew (grown_refl w none)
  obtain ⟨ka, kc, rfl⟩ := s1.shape
  obtain ⟨ua, uc, rfl⟩ := hu.shape
  generalize l.getD i ([], []) = P at *
  clear s1 s2 c2 hv hu
  go_enter Try.func73, Try.ntmps73
  go_wp2_with fail
  go_region_with (go_at_call 52; refine CM.out.mono ?_; rintro e w1 ⟨rfl, rfl⟩)
  all_goals
    go_wp2
    go_ret
    exact ⟨by rw [HZ.out]; rfl, hgd⟩
set_option maxRecDepth 100000 in
set_option maxHeartbeats 1000000 in
theorem tsearch_any (w : World) (lb bb : Nat) (a : Option Addr) (cap : Nat) (l : FL) (u : Value) (k : List UInt8) (n : Nat) (hl : w.cell? ⟨lb, 0, none⟩ = some (.slice a l.length cap)) (hb : w.cell? ⟨bb, 0, none⟩ = some u) (hv : TensIs w (.slice a l.length cap) l) (hu : SliceIs w u k) (hroom : l.length ≤ 8)
    (hn : n ≤ l.length) (hbit : ∀ j, j < l.length → klt (l.getD j ([], [])).1 k = decide (j < n)) :
    Calls Try.prog 72 #[.int .i64 (l.length : Int), .func (.func 73) #[] #[.pointer (some ⟨lb, 0, none⟩), .pointer (some ⟨bb, 0, none⟩)]] w fun e w' => e = .returned (.int .i64 (n : Int)) ∧ w.grownBy w' none := by
  have CL : Hid (∀ (w' : World) (i : Nat), w.grownBy w' none → i < l.length → Calls Try.prog 73 #[.int .i64 (i : Int), .pointer (some ⟨lb, 0, none⟩), .pointer (some ⟨bb, 0, none⟩)] w' fun e w'' => e = .returned (.bool (decide (n ≤ i))) ∧ w'.grownBy w'' none) := fun w' i hg hi => by
    have := placeAt_any w' lb bb a cap l u k i (hg.cell hl (by simp)) (hg.cell hb (by simp)) (hv.grown hg) (hu.grown hg) hi
    rw [hbit i hi] at this
    rw [show (decide (n ≤ i)) = !(decide (i < n)) by by_cases h : n ≤ i <;> simp [h] <;> omega]
    exact this
  clear hl hb hv hbit
  go_enter Try.func72, Try.ntmps72
  go_wp2_with fail
  go_loopw [5, 6] (fun si sj wr => ∃ i j : Nat, i ≤ n ∧ n ≤ j ∧ j ≤ l.length ∧ si = .int .i64 (i : Int) ∧ sj = .int .i64 (j : Int) ∧ w.grownBy wr none) (fun si sj _ => (intOf sj).toNat - (intOf si).toNat)
  case atStart => exact ⟨0, l.length, by omega, hn, by omega, rfl, rfl, grown_refl _ _⟩
  case round =>
    obtain ⟨i, j, hi, hj, hjl, rfl, rfl, hgr⟩ := hrel
    by_cases hlt : i < j
    · have t1 : (i : Int) < (j : Int) := by omega
      obtain ⟨h, hh⟩ : ∃ h : Nat, ((i : Int) + (j : Int)) / 2 = (h : Int) := ⟨(i + j) / 2, by omega⟩
      have b1 : i ≤ h := by omega
      have b2 : h < j := by omega
      have CH : Hid (Calls Try.prog 73 #[.int .i64 (h : Int), .pointer (some ⟨lb, 0, none⟩), .pointer (some ⟨bb, 0, none⟩)] wr fun e w'' => e = .returned (.bool (decide (n ≤ h))) ∧ wr.grownBy w'' none) := CL.out wr h hgr (by omega)
      go_wp2_with fail
      refine CH.out.mono ?_
      rintro e w1 ⟨rfl, hg1⟩
      have hgw := grown_trans hgr hg1
      by_cases hz : n ≤ h
      · rw [decide_eq_true hz]
        go_wp2_with fail
        go_roundw
        case rel =>
          first
            | exact ⟨i, h, by omega, by omega, by omega, rfl, rfl, hgw⟩
            | ((repeat apply Exists.intro); refine ⟨⟨i, h, by omega, by omega, by omega, rfl, ?_, hgw⟩, rfl⟩; go_num)
        case measure => simp [intOf]; omega
      · rw [decide_eq_false hz]
        go_wp2_with fail
        go_roundw
        case rel =>
          first
            | exact ⟨h + 1, j, by omega, by omega, by omega, by go_num, rfl, hgw⟩
            | ((repeat apply Exists.intro); refine ⟨⟨h + 1, j, by omega, by omega, by omega, ?_, rfl, hgw⟩, rfl⟩; go_num)
        case measure => simp [intOf]; omega
    · obtain rfl : i = n := by omega
      obtain rfl : j = i := by omega
      go_wp2
      go_ret
      exact ⟨rfl, hgr⟩
set_option maxRecDepth 100000 in
set_option maxHeartbeats 1000000 in
theorem fplace_any (w : World) (v u : Value) (l : FL) (k : List UInt8) (hv : TensIs w v l) (hu : SliceIs w u k) (hr : t_Rises l) (hroom : l.length ≤ 8) :
    Calls Try.prog 56 #[v, u] w fun e w' => e = .returned (.tuple #[.int .i64 (t_posF l k : Int), .int .i64 (t_nextF l k : Int)]) ∧ w.grownBy w' none := by
  obtain ⟨a, cap, rfl⟩ := hv.shape
  obtain ⟨ua, uc, rfl⟩ := hu.shape
  obtain ⟨W, hW⟩ : ∃ W : World, W = (w.alloc (.cells #[.slice a l.length cap] 35)).alloc (.cells #[.slice ua k.length uc] 38) := ⟨_, rfl⟩
  have HW : Hid (W = (w.alloc (.cells #[.slice a l.length cap] 35)).alloc (.cells #[.slice ua k.length uc] 38)) := hW
  have hg : w.grownBy W none := by rw [hW]; exact grown_alloc (World.grownBy_alloc _ _ _) _
  have c1 : W.cell? ⟨w.heap.size, 0, none⟩ = some (.slice a l.length cap) := by
    have := (World.grownBy_alloc (w.alloc (.cells #[.slice a l.length cap] 35)) (.cells #[.slice ua k.length uc] 38) none).block w.heap.size (by simp) (by simp)
    rw [heap_alloc_new, ← hW] at this
    simp [World.cell?, this]
  have c2 : W.cell? ⟨w.heap.size + 1, 0, none⟩ = some (.slice ua k.length uc) := by
    have := heap_alloc_new (w.alloc (.cells #[.slice a l.length cap] 35)) (.cells #[.slice ua k.length uc] 38)
    rw [World.size_alloc, ← hW] at this
    simp [World.cell?, this]
  have hpl := t_pos_le l k
  have SE : Hid (Calls Try.prog 72 #[.int .i64 (l.length : Int), .func (.func 73) #[] #[.pointer (some ⟨w.heap.size, 0, none⟩), .pointer (some ⟨w.heap.size + 1, 0, none⟩)]] W fun e w' => e = .returned (.int .i64 (t_posF l k : Int)) ∧ W.grownBy w' none) := tsearch_any W w.heap.size (w.heap.size + 1) a cap l _ k (t_posF l k) c1 c2 (hv.grown hg) (hu.grown hg) hroom hpl (t_klt_pos l k hr)
  have HN : Hid (t_nextF l k = if t_hasF l k = true then t_posF l k + 1 else t_posF l k) := rfl
  have HH : Hid (t_hasF l k = decide (t_posF l k < l.length ∧ (l.getD (t_posF l k) ([], [])).1 = k)) := rfl
  generalize t_nextF l k = nx at *
  generalize t_hasF l k = B at *
  generalize t_posF l k = n at *
  clear hr
  by_cases hlt : n < l.length
  · obtain ⟨pb, po, rfl, hat⟩ := hv.at n hlt
    obtain ⟨vk, vv, d1, d2, s1, s2⟩ := hat.grown hg
    have t1 : (n : Int) < (l.length : Int) := by omega
    have EQ : Hid (∀ w', W.grownBy w' none → Calls Try.prog 51 #[vk, .slice ua k.length uc] w' fun e w'' => e = .returned (.bool B) ∧ w'' = w') := fun w' hgw => by
      have := equal_any w' vk _ _ _ (s1.grown hgw) ((hu.grown hg).grown hgw)
      rw [HH.out, show decide (n < l.length ∧ (l.getD n ([], [])).1 = k) = decide ((l.getD n ([], [])).1 = k) by simp [hlt]]
      exact this
    obtain ⟨ka, kc, rfl⟩ := s1.shape
    generalize l.getD n ([], []) = P at *
    clear hv hu s1 s2 d2 hat hW HH
    go_enter Try.func56, Try.ntmps56
    go_wp2_with fail
    rw [← HW.out]
    go_wp2_with fail
    refine SE.out.mono ?_
    rintro e w1 ⟨rfl, hg1⟩
    have e1 := hg1.cell c1 (by simp)
    have e2 := hg1.cell c2 (by simp)
    have e3 := hg1.cell d1 (by simp)
    clear c1 c2 d1
    go_wp2_with fail
    go_quiet (first | (go_at_call 51; exact Calls.quiet_of_same (EQ.out _ (grown_drewN hg1 _))))
    have hgw := grown_trans hg hg1
    cases B with
    | true =>
      have HX : Hid (nx = n + 1) := by show _ = _; rw [HN.out, if_pos rfl]
      go_wp2
      go_ret2
      exact ⟨by rw [HX.out]; go_num, grown_drewN hgw _⟩
    | false =>
      have HX : Hid (nx = n) := by show _ = _; rw [HN.out, if_neg (by simp)]
      go_wp2
      go_ret2
      exact ⟨by rw [HX.out]; rfl, grown_drewN hgw _⟩
  · have HX : Hid (nx = n) := by
      show _ = _
      rw [HN.out, HH.out, if_neg (by simp; omega)]
    have t1 : ¬ (n : Int) < (l.length : Int) := by omega
    clear hv hu hW HH
    go_enter Try.func56, Try.ntmps56
    go_wp2_with fail
    rw [← HW.out]
    go_wp2_with fail
    refine SE.out.mono ?_
    rintro e w1 ⟨rfl, hg1⟩
    have e1 := hg1.cell c1 (by simp)
    have e2 := hg1.cell c2 (by simp)
    clear c1 c2
    have hgw := grown_trans hg hg1
    go_wp2_with fail
    go_quiet (fail)
    all_goals
      go_wp2
      go_ret2
      exact ⟨by rw [HX.out]; rfl, grown_drewN hgw _⟩
end Go.Proofs.Ytpmfbfflacbmjac

/-
  forest.pairsOf and forest.checkedPairs, as they landed.
-/
namespace Go.Proofs.Ytpmfbfflacbmjac
open Go.RowKit
theorem sizeTenS (w : World) : (sizeOf (Try.prog.elem 35)).run Try.prog w = .ok 2 w := by kernel_rfl
theorem TensIs.sliced {w : World} {a : Option Addr} {cap : Nat} {l : FL} (h : TensIs w (.slice a l.length cap) l) (i j : Nat) (hij : i ≤ j) (hj : j ≤ l.length) : TensIs w (Go.sliced a i j cap 2) ((l.take j).drop i) := by
  obtain ⟨a', cap', e, hc, h⟩ := h
  simp only [Value.slice.injEq, true_and] at e
  obtain ⟨rfl, rfl⟩ := e
  have hlen : ((l.take j).drop i).length = j - i := by simp; omega
  refine ⟨if cap = i then a else a.map (·.add (i * 2)), cap - i, by rw [hlen]; rfl, by rw [hlen]; omega, ?_⟩
  by_cases hci : cap = i
  · left
    exact ⟨List.eq_nil_of_length_eq_zero (by rw [hlen]; omega), fun _ => by omega⟩
  · rw [if_neg hci]
    rcases h with ⟨rfl, h⟩ | ⟨b, o, rfl, h⟩
    · left
      refine ⟨by simp, fun e => ?_⟩
      cases a with
      | none => have := h rfl; simp at hj; omega
      | some x => cases e
    · right
      refine ⟨b, o + i * 2, by simp [addr_add], fun k hk => ?_⟩
      rw [hlen] at hk
      have := h (i + k) (by omega)
      have e : ((l.take j).drop i).getD k ([], []) = l.getD (i + k) ([], []) := by simp [show i + k < j by omega]
      rw [e, show o + i * 2 + k * 2 = o + (i + k) * 2 by omega]
      exact this
theorem TensIs.cap {w : World} {a : Option Addr} {n cap : Nat} {l : FL} (h : TensIs w (.slice a n cap) l) : l.length ≤ cap := by
  obtain ⟨a', cap', e, hc, _⟩ := h
  simp only [Value.slice.injEq] at e
  obtain ⟨_, _, rfl⟩ := e
  exact hc
theorem tenslice_lh (a : Option Addr) (cap : Nat) (l : FL) (i j : Nat) (hij : i ≤ j) (hj : j ≤ l.length) (hc : l.length ≤ cap) : ∃ a1 c1, (∀ W, (Instr.slice 35 (.slice a l.length cap) (some (.int .i64 (i : Int))) (some (.int .i64 (j : Int))) none).run Try.prog W = .ok (.slice a1 (j - i) c1) W) ∧ ∀ W, TensIs W (.slice a l.length cap) l → TensIs W (.slice a1 (j - i) c1) ((l.take j).drop i) := by
  refine ⟨if cap = i then a else a.map (·.add (i * 2)), cap - i, fun W => ?_, fun W h => ?_⟩
  · rw [run_slice_lh _ _ _ _ _ (by kernel_rfl) _ _ _ _ (by omega) (by omega) (by omega), sizeTenS]
    simp only [Result.andThen, Go.sliced, Int.toNat_natCast]
  · have := h.sliced i j hij hj
    simpa only [Go.sliced] using this
set_option maxRecDepth 100000 in
set_option maxHeartbeats 1000000 in
theorem fpairsOf_none (w : World) (a : Option Addr) (cap : Nat) : Calls Try.prog 57 #[.slice a 0 cap] w fun e w' => e = .returned (.slice none 0 0) ∧ w' = w := by
  go_enter Try.func57, Try.ntmps57
  go_wp2
  go_ret
  exact ⟨rfl, rfl⟩
set_option maxRecDepth 100000 in
set_option maxHeartbeats 1000000 in
theorem fpairsOf_one (w : World) (b o cap : Nat) (vp : Value) (hc : w.cell? ⟨b, o + 1, none⟩ = some vp) (hs : ∃ a n c, vp = .slice a n c) : Calls Try.prog 57 #[.slice (some ⟨b, o, none⟩) 1 cap] w fun e w' => e = .returned vp ∧ w' = w := by
  obtain ⟨a, n, c, rfl⟩ := hs
  go_enter Try.func57, Try.ntmps57
  go_wp2
  go_ret
  exact ⟨rfl, rfl⟩
/-- What stands for what a name has: nothing, or the value in the tenant's second cell. -/
theorem fpairsOf_any (w : World) (v : Value) (l m : FL) (k : List UInt8) (hv : TensIs w v m) (hm : (m = [] ∧ ofF l k = []) ∨ ∃ t, m = [t] ∧ ofF l k = t.2) :
    Calls Try.prog 57 #[v] w fun e w' => ∃ x, e = .returned x ∧ PairsIs w x (ofF l k) ∧ w' = w := by
  rcases hm with ⟨rfl, h0⟩ | ⟨t, rfl, h1⟩
  · obtain ⟨a, cap, rfl⟩ := hv.shape
    refine (fpairsOf_none w a cap).mono ?_
    rintro e w' ⟨rfl, rfl⟩
    exact ⟨_, rfl, by rw [h0]; exact pairsIs_nil _, rfl⟩
  · obtain ⟨a, cap, rfl⟩ := hv.shape
    obtain ⟨b, o, rfl, vn, vp, c1, c2, s1, s2⟩ := hv.at 0 (by simp)
    rw [show (([t] : FL).getD 0 ([], [])) = t from rfl] at s1 s2
    refine (fpairsOf_one w b o cap vp (by simpa using c2) (by obtain ⟨a, c, e⟩ := s2.shape; exact ⟨_, _, _, e⟩)).mono ?_
    rintro e w' ⟨rfl, rfl⟩
    exact ⟨_, rfl, by rw [h1]; exact s2, rfl⟩
end Go.Proofs.Ytpmfbfflacbmjac
