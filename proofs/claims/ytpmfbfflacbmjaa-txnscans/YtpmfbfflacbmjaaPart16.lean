/-
  Texts of this proof, joined: RName, RPairF, RTree, RFault, RForF.
-/
import Derived.Test.YtpmfbfflacbmjaaRKeyF
import Derived.Test.YtpmfbfflacbmjaaPart1
import Derived.Test.YtpmfbfflacbmjaaPart2
import Derived.Test.YtpmfbfflacbmjaaPart4
/-
  The walk of the document's answer to P5.1: NameFault.
-/
namespace Go.Proofs.Ytpmfbfflacbmjaa
open Go.RowKit
theorem nameFault_any (w : World) (a : Option Addr) (n cap : Nat) :
    Calls Try.prog 53 #[.slice a n cap] w fun e w' => e = .returned (.int .i64 (nameFaultF n)) ∧ w' = w := by
  by_cases h : 1 ≤ n ∧ n ≤ 8
  · rw [nameFaultF, if_pos h]
    go_enter Try.func53, Try.ntmps53
    go_wp2_with fail
    refine (in_any _ _ _ _).mono ?_
    rintro e w1 ⟨rfl, rfl⟩
    rw [decide_eq_true (show (1 : Int) ≤ (n : Int) ∧ (n : Int) ≤ 8 by omega)]
    go_wp2
    go_ret
    exact ⟨rfl, rfl⟩
  · rw [nameFaultF, if_neg h]
    go_enter Try.func53, Try.ntmps53
    go_wp2_with fail
    refine (in_any _ _ _ _).mono ?_
    rintro e w1 ⟨rfl, rfl⟩
    rw [decide_eq_false (show ¬ ((1 : Int) ≤ (n : Int) ∧ (n : Int) ≤ 8) by omega)]
    go_wp2
    go_ret
    exact ⟨rfl, rfl⟩
end Go.Proofs.Ytpmfbfflacbmjaa

/-
  The walk of the document's answer: pairFault.
-/
namespace Go.Proofs.Ytpmfbfflacbmjaa
open Go.RowKit
theorem rpairFault_any (w : World) (ak av : Option Addr) (p : Pr) (ck cv : Nat) :
    Calls Try.prog 72 #[.agg #[.slice ak p.1.length ck, .slice av p.2.length cv]] w fun e w' => e = .returned (.int .i64 (pairFaultF p)) ∧ w.grownBy w' none := by
  by_cases h : 32 < p.2.length
  · rw [pairFaultF, if_pos h]
    have t1 : (p.2.length : Int) > 32 := by omega
    go_enter Try.func72, Try.ntmps72
    go_wp2
    go_ret
    exact ⟨rfl, World.grownBy_alloc _ _ _⟩
  · rw [pairFaultF, if_neg h]
    have t1 : ¬ (p.2.length : Int) > 32 := by omega
    go_enter Try.func72, Try.ntmps72
    go_wp2_with fail
    refine (keyFault_any _ _ _ _).mono ?_
    rintro e w1 ⟨rfl, rfl⟩
    go_wp2
    go_ret
    exact ⟨rfl, World.grownBy_alloc _ _ _⟩
end Go.Proofs.Ytpmfbfflacbmjaa

/-
  The walks of the document's answer to P3: before, sameBytes, pairFault, PairsFault, pairsAndKey.
-/
namespace Go.Proofs.Ytpmfbfflacbmjaa
open Go.RowKit
theorem before_any (w : World) (v1 v2 : Value) (b1 b2 : List UInt8) (h1 : SliceIs w v1 b1) (h2 : SliceIs w v2 b2) :
    Calls Try.prog 62 #[v1, v2] w fun e w' => e = .returned (.bool (klt b1 b2)) ∧ w' = w := by
  have c1 := conv_bytes w v1 b1 h1
  have c2 := conv_bytes w v2 b2 h2
  go_enter Try.func62, Try.ntmps62
  go_wp2
  go_ret
  refine ⟨?_, rfl⟩
  have e : Op.bytesLess (textOf b1).toList (textOf b2).toList = klt b1 b2 := by rw [textOf_list, textOf_list]
  rw [← e]
  rfl
end Go.Proofs.Ytpmfbfflacbmjaa

/-
  The walks of the document's answer to P3.1: PairsFault, pairsAndKey.
-/
namespace Go.Proofs.Ytpmfbfflacbmjaa
open Go.RowKit
set_option maxRecDepth 100000 in
set_option maxHeartbeats 1000000 in
theorem pairsFault_any (w : World) (v : Value) (l : PL) (hv : PairsIs w v l) :
    Calls Try.prog 96 #[v] w fun e w' => e = .returned (.int .i64 (pairsFaultF l)) ∧ w.grownBy w' none := by
  obtain ⟨a, cap, rfl⟩ := hv.shape
  by_cases hl : 60 < l.length
  · rw [pairsFault_long l hl]
    have t1 : (l.length : Int) > 60 := by omega
    go_enter Try.func96, Try.ntmps96
    go_wp2
    go_ret
    exact ⟨rfl, grown_refl _ _⟩
  · have t1 : ¬ (l.length : Int) > 60 := by omega
    go_enter Try.func96, Try.ntmps96
    go_wp2_with fail
    go_loopw [3] (fun iv wr => ∃ m : Nat, m ≤ l.length ∧ iv = .int .i64 (m : Int) ∧ w.grownBy wr none ∧ ∀ j, j < m → faultAt l j = 0) (fun iv _ => l.length - (intOf iv).toNat)
    case atStart => exact ⟨0, by omega, rfl, grown_refl _ _, fun j hj => by omega⟩
    case round =>
      obtain ⟨m, hm, rfl, hgr, hok⟩ := hrel
      have HOK : Hid (∀ j, j < m → faultAt l j = 0) := hok
      clear hok
      by_cases hlt : m < l.length
      · have t2 : (m : Int) < (l.length : Int) := by omega
        obtain ⟨b, o, rfl, hat⟩ := hv.at m hlt
        obtain ⟨vk, vv, c1, c2, s1, s2⟩ := hat.grown hgr
        generalize hP : l.getD m ([], []) = P at s1 s2
        have HA : Hid (faultAt l m = if pairFaultF P = 0 then (if 0 < m ∧ klt (l.getD (m - 1) ([], [])).1 P.1 = false then 3 else 0) else pairFaultF P) := by
          show _ = _
          unfold faultAt
          rw [hP]
        obtain ⟨ak, ck, rfl, hck, hrk⟩ := s1
        obtain ⟨av, cv, rfl, hcv, hrv⟩ := s2
        have s1 : SliceIs wr (.slice ak P.1.length ck) P.1 := ⟨ak, ck, rfl, hck, hrk⟩
        clear hrk hrv hat hP
        go_wp2_with fail
        refine (rpairFault_any _ _ _ P _ _).mono ?_
        rintro e w1 ⟨rfl, hg1⟩
        by_cases hf : pairFaultF P = 0
        · rw [hf]
          have c1 := hg1.cell c1 (by simp)
          have s1 := s1.grown hg1
          have hgw := grown_trans hgr hg1
          by_cases h0 : m = 0
          · subst h0
            have HZ : Hid (faultAt l 0 = 0) := by show _ = _; rw [HA.out, if_pos hf, if_neg (by simp)]
            go_wp2_with fail
            go_quiet (fail)
            all_goals go_wp2_with fail
            go_roundw
            case rel =>
              have hs : ∀ j, j < 0 + 1 → faultAt l j = 0 := fun j hj => by
                obtain rfl : j = 0 := by omega
                exact HZ.out
              exact ⟨1, by omega, rfl, grown_drewN hgw _, hs⟩
            case measure => simp [intOf]; omega
          · obtain ⟨n, rfl⟩ : ∃ n, m = n + 1 := ⟨m - 1, by omega⟩
            obtain ⟨b2, o2, e, hat⟩ := hv.at n (by omega)
            cases e
            obtain ⟨qk, qv, d1, d2, r1, r2⟩ := hat.grown hgw
            clear d2 r2 hat
            have HA2 : Hid (faultAt l (n + 1) = if klt (l.getD n ([], [])).1 P.1 = false then 3 else 0) := by
              show _ = _
              rw [HA.out, if_pos hf]
              simp
            generalize (l.getD n ([], [])).1 = q at *
            have i0 : IntKind.i64.wrap (n : Int) = (n : Int) := by rw [IntKind.wrap_i64]; omega
            have R1 : Hid (SliceIs w1 qk q) := r1
            have S1 : Hid (SliceIs w1 (.slice ak P.1.length ck) P.1) := s1
            have i2 : (n : Int) < (l.length : Int) := by omega
            have i3 : ((n + 1 : Nat) : Int) > 0 := by omega
            clear s1 r1
            go_wp2_with fail
            go_quiet (first | (go_at_call 62; exact Calls.quiet_of_same (before_any _ _ _ _ _ (R1.out.drewN _) (S1.out.drewN _))))
            cases hk : klt q P.1 with
            | true =>
              have HZ : Hid (faultAt l (n + 1) = 0) := by show _ = _; rw [HA2.out, hk]; simp
              go_wp2_with fail
              go_roundw
              case rel =>
                have hs : ∀ j, j < n + 1 + 1 → faultAt l j = 0 := fun j hj => by
                  by_cases hjm : j = n + 1
                  · subst hjm; exact HZ.out
                  · exact HOK.out j (by omega)
                first
                  | exact ⟨n + 1 + 1, by omega, by go_num, grown_drewN hgw _, hs⟩
                  | ((repeat apply Exists.intro); refine ⟨⟨n + 1 + 1, by omega, ?_, grown_drewN hgw _, hs⟩, rfl⟩; go_num)
              case measure => simp [intOf]; omega
            | false =>
              have HZ : Hid (pairsFaultF l = 3) := by
                have e : faultAt l (n + 1) = 3 := by rw [HA2.out, hk]; simp
                show _ = _
                rw [← e]
                exact pairsFault_at l (n + 1) hlt (by omega) HOK.out (by rw [e]; decide)
              go_wp2
              go_ret
              exact ⟨by rw [HZ.out]; rfl, grown_drewN hgw _⟩
        · have HF : Hid (pairsFaultF l = pairFaultF P) := by
            have e : faultAt l m = pairFaultF P := by rw [HA.out, if_neg hf]
            show _ = _
            rw [← e]
            exact pairsFault_at l m hlt (by omega) HOK.out (by rw [e]; exact hf)
          generalize pairFaultF P = z at *
          have hz : (z != 0) = true := by simpa using hf
          go_wp2
          go_ret
          exact ⟨by rw [HF.out]; rfl, grown_trans hgr hg1⟩
      · obtain rfl : m = l.length := by omega
        have HP : Hid (pairsFaultF l = 0) := pairsFault_none l (by omega) HOK.out
        go_wp2
        go_ret
        exact ⟨by rw [HP.out]; rfl, hgr⟩
end Go.Proofs.Ytpmfbfflacbmjaa

/-
  The walk of the document's answer to P5.2: ForestFault.
-/
namespace Go.Proofs.Ytpmfbfflacbmjaa
open Go.RowKit
set_option maxRecDepth 100000 in
set_option maxHeartbeats 2000000 in
theorem forestFault_any (w : World) (v : Value) (l : FL) (hv : TensIs w v l) :
    Calls Try.prog 85 #[v] w fun e w' => e = .returned (.int .i64 (forestE l)) ∧ w.grownBy w' none := by
  obtain ⟨a, cap, rfl⟩ := hv.shape
  by_cases hl : 8 < l.length
  · rw [forestE_long l hl]
    have t1 : (l.length : Int) > 8 := by omega
    go_enter Try.func85, Try.ntmps85
    go_wp2
    go_ret
    exact ⟨rfl, grown_refl _ _⟩
  · have t1 : ¬ (l.length : Int) > 8 := by omega
    go_enter Try.func85, Try.ntmps85
    go_wp2_with fail
    go_loopw [3] (fun iv wr => ∃ m : Nat, m ≤ l.length ∧ iv = .int .i64 (m : Int) ∧ w.grownBy wr none ∧ ∀ j, j < m → tenAt l j = 0) (fun iv _ => l.length - (intOf iv).toNat)
    case atStart => exact ⟨0, by omega, rfl, grown_refl _ _, fun j hj => by omega⟩
    case round =>
      obtain ⟨m, hm, rfl, hgr, hok⟩ := hrel
      have HOK : Hid (∀ j, j < m → tenAt l j = 0) := hok
      clear hok
      by_cases hlt : m < l.length
      · have t2 : (m : Int) < (l.length : Int) := by omega
        obtain ⟨b, o, rfl, hat⟩ := hv.at m hlt
        obtain ⟨vn, vp, c1, c2, s1, s2⟩ := hat.grown hgr
        generalize hP : l.getD m ([], []) = P at s1 s2
        have HA : Hid (tenAt l m = if tenFaultF P = 0 then (if 0 < m ∧ klt (l.getD (m - 1) ([], [])).1 P.1 = false then 3 else 0) else tenFaultF P) := by
          show _ = _
          unfold tenAt
          rw [hP]
        have HTF : Hid (tenFaultF P = if nameFaultF P.1.length = 0 then (if P.2.length = 0 then 4 else pairsFaultF P.2) else nameFaultF P.1.length) := rfl
        have HEND : Hid (∀ z : Int, z ≠ 0 → tenFaultF P = z → forestE l = z) := fun z hz e => by
          have e1 : tenAt l m = z := by rw [HA.out, if_neg (by rw [e]; exact hz), e]
          rw [← e1]
          exact forestE_at l m hlt (by omega) HOK.out (by rw [e1]; exact hz)
        obtain ⟨ak, ck, rfl⟩ := s1.shape
        obtain ⟨av, cv, rfl⟩ := s2.shape
        have S1 : Hid (SliceIs wr (.slice ak P.1.length ck) P.1) := s1
        have NF : Hid (Calls Try.prog 53 #[.slice ak P.1.length ck] wr fun e w' => e = .returned (.int .i64 (nameFaultF P.1.length)) ∧ w' = wr) := nameFault_any wr ak _ ck
        have PFA : Hid (Calls Try.prog 96 #[.slice av P.2.length cv] wr fun e w' => e = .returned (.int .i64 (pairsFaultF P.2)) ∧ wr.grownBy w' none) := pairsFault_any wr _ P.2 s2
        generalize hNF : nameFaultF P.1.length = nf at *
        generalize P.1.length = n1 at *
        generalize hPL : P.2.length = n2 at *
        generalize hPF : pairsFaultF P.2 = pf at *
        have HPL : Hid (P.2.length = n2) := hPL
        clear s1 s2 hat hP hNF hPF hPL
        go_wp2_with fail
        refine NF.out.mono ?_
        rintro e w1 ⟨rfl, rfl⟩
        by_cases h1 : nf = 0
        · subst h1
          by_cases h2 : n2 = 0
          · subst h2
            have HZ : Hid (forestE l = 4) := HEND.out 4 (by decide) (by rw [HTF.out]; simp)
            go_wp2_with fail
            go_quiet (fail)
            go_wp2
            go_ret
            exact ⟨by rw [HZ.out]; rfl, grown_drewN hgr _⟩
          · have i2 : ((n2 : Int) == 0) = false := by rw [beq_eq_false_iff_ne]; omega
            go_wp2_with fail
            refine PFA.out.mono ?_
            rintro e w2 ⟨rfl, hg2⟩
            have hgw := grown_trans hgr hg2
            by_cases h3 : pf = 0
            · subst h3
              have HT0 : Hid (tenFaultF P = 0) := by show _ = _; rw [HTF.out]; simp [h2]
              have c1 := hg2.cell c1 (by simp)
              have S2 : Hid (SliceIs w2 (.slice ak n1 ck) P.1) := S1.out.grown hg2
              by_cases h0 : m = 0
              · subst h0
                have HZ : Hid (tenAt l 0 = 0) := by show _ = _; rw [HA.out, if_pos HT0.out, if_neg (by simp)]
                go_wp2_with fail
                go_quiet (fail)
                all_goals go_wp2_with fail
                go_roundw
                case rel =>
                  have hs : ∀ j, j < 0 + 1 → tenAt l j = 0 := fun j hj => by
                    obtain rfl : j = 0 := by omega
                    exact HZ.out
                  exact ⟨1, by omega, rfl, grown_drewN hgw _, hs⟩
                case measure => simp [intOf]; omega
              · obtain ⟨n, rfl⟩ : ∃ n, m = n + 1 := ⟨m - 1, by omega⟩
                obtain ⟨b2, o2, e, hat⟩ := hv.at n (by omega)
                cases e
                obtain ⟨qk, qv, d1, d2, r1, r2⟩ := hat.grown hgw
                clear d2 r2 hat
                have HA2 : Hid (tenAt l (n + 1) = if klt (l.getD n ([], [])).1 P.1 = false then 3 else 0) := by
                  show _ = _
                  rw [HA.out, if_pos HT0.out]
                  simp
                generalize (l.getD n ([], [])).1 = q at *
                have i0 : IntKind.i64.wrap (n : Int) = (n : Int) := by rw [IntKind.wrap_i64]; omega
                have R1 : Hid (SliceIs w2 qk q) := r1
                have i4 : (n : Int) < (l.length : Int) := by omega
                have i3 : ((n + 1 : Nat) : Int) > 0 := by omega
                clear r1
                go_wp2_with fail
                go_quiet (first | (go_at_call 62; exact Calls.quiet_of_same (before_any _ _ _ _ _ (R1.out.drewN _) (S2.out.drewN _))))
                cases hk : klt q P.1 with
                | true =>
                  have HZ : Hid (tenAt l (n + 1) = 0) := by show _ = _; rw [HA2.out, hk]; simp
                  go_wp2_with fail
                  go_roundw
                  case rel =>
                    have hs : ∀ j, j < n + 1 + 1 → tenAt l j = 0 := fun j hj => by
                      by_cases hjm : j = n + 1
                      · subst hjm; exact HZ.out
                      · exact HOK.out j (by omega)
                    first
                      | exact ⟨n + 1 + 1, by omega, by go_num, grown_drewN hgw _, hs⟩
                      | ((repeat apply Exists.intro); refine ⟨⟨n + 1 + 1, by omega, ?_, grown_drewN hgw _, hs⟩, rfl⟩; go_num)
                  case measure => simp [intOf]; omega
                | false =>
                  have HZ : Hid (forestE l = 3) := by
                    have e : tenAt l (n + 1) = 3 := by rw [HA2.out, hk]; simp
                    show _ = _
                    rw [← e]
                    exact forestE_at l (n + 1) hlt (by omega) HOK.out (by rw [e]; decide)
                  go_wp2
                  go_ret
                  exact ⟨by rw [HZ.out]; rfl, grown_drewN hgw _⟩
            · have HZ : Hid (forestE l = pf) := HEND.out pf h3 (by rw [HTF.out]; simp [h2])
              have hz : (pf != 0) = true := by simpa using h3
              have hz2 : (pf == 0) = false := by simpa using h3
              go_wp2_with fail
              go_quiet (fail)
              go_wp2
              go_ret
              exact ⟨by rw [HZ.out]; rfl, grown_drewN hgw _⟩
        · have HZ : Hid (forestE l = nf) := HEND.out nf h1 (by rw [HTF.out]; simp [h1])
          have hz : (nf != 0) = true := by simpa using h1
          have hz2 : (nf == 0) = false := by simpa using h1
          go_wp2_with fail
          go_quiet (fail)
          go_wp2
          go_ret
          exact ⟨by rw [HZ.out]; rfl, grown_drewN hgr _⟩
      · obtain rfl : m = l.length := by omega
        have HP : Hid (forestE l = 0) := forestE_none l (by omega) HOK.out
        go_wp2
        go_ret
        exact ⟨by rw [HP.out]; rfl, hgr⟩
end Go.Proofs.Ytpmfbfflacbmjaa
