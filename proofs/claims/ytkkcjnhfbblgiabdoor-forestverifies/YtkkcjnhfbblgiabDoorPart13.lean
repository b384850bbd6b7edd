/-
  Texts of this proof, joined: RProofF, RProofE.
-/
import Derived.Test.YtkkcjnhfbblgiabDoorStepMem
import Derived.Test.YtkkcjnhfbblgiabDoorPart2
import Derived.Test.YtkkcjnhfbblgiabDoorPart10
import Derived.Test.YtkkcjnhfbblgiabDoorPart11
import Derived.Deep.RegionWith
import Derived.Handy
import Derived.BigQuiet
/-
  The walks of the document's answer to P4.2: proofMay, ProofFault.
-/
namespace Go.Proofs.YtkkcjnhfbblgiabDoor
open Go.RowKit
theorem may_empty {k : List UInt8} {p : Prf} (he : p.empty = true) : May k p ↔ p.steps.length = 0 ∧ p.pair.1.length = 0 ∧ p.pair.2.length = 0 := by
  constructor
  · rintro (⟨_, h1, h2, h3⟩ | ⟨h, _⟩)
    · exact ⟨by rw [h1]; rfl, by rw [h2]; rfl, by rw [h3]; rfl⟩
    · rw [he] at h; cases h
  · rintro ⟨h1, h2, h3⟩
    exact .inl ⟨he, List.length_eq_zero_iff.1 h1, List.length_eq_zero_iff.1 h2, List.length_eq_zero_iff.1 h3⟩
theorem may_some {k : List UInt8} {p : Prf} (he : p.empty = false) : May k p ↔ pairFaultF p.pair = 0 ∧ ∀ i, i < p.steps.length → StepMay k p.pair.1 p.steps i := by
  constructor
  · rintro (⟨h, _⟩ | ⟨_, h1, h2⟩)
    · rw [he] at h; cases h
    · exact ⟨h1, h2⟩
  · rintro ⟨h1, h2⟩; exact .inr ⟨he, h1, h2⟩
set_option maxRecDepth 100000 in
set_option maxHeartbeats 2000000 in
theorem proofMay_any (w : World) (u v : Value) (k : List UInt8) (p : Prf) (hu : SliceIs w u k) (hv : ProofIs w v p) (hk : 1 ≤ k.length ∧ k.length ≤ 16) (hf : PrfFits p) :
    Calls Tryd.prog 90 #[u, v] w fun e w' => ∃ z : Bool, e = .returned (.bool z) ∧ (z = true ↔ May k p) ∧ w.grownBy w' none := by
  obtain ⟨vs, vk, vv, rfl, hs, h1, h2⟩ := hv
  obtain ⟨ua, uc, rfl⟩ := hu.shape
  obtain ⟨sa, sc, rfl⟩ := hs.shape
  obtain ⟨ka, kc, rfl⟩ := h1.shape
  obtain ⟨va, vc, rfl⟩ := h2.shape
  cases he : p.empty with
  | true =>
    have hme := may_empty (k := k) he
    generalize May k p = MP at *
    generalize p.steps.length = ns at *
    generalize p.pair.1.length = nk at *
    generalize p.pair.2.length = nv at *
    clear hs h1 h2 hu hf hk he
    by_cases g1 : ns = 0
    · by_cases g2 : nk = 0
      · by_cases g3 : nv = 0
        · have hz : MP := hme.2 ⟨g1, g2, g3⟩
          have HZ : Hid MP := hz
          clear hme hz
          subst g1 g2 g3
          go_enter Tryd.func90, Tryd.ntmps90
          go_wp2
          go_ret
          exact ⟨true, rfl, ⟨fun _ => HZ.out, fun _ => rfl⟩, World.grownBy_alloc _ _ _⟩
        · have HZ : Hid (¬MP) := fun h => g3 (hme.1 h).2.2
          clear hme
          subst g1 g2
          have t3 : ((nv : Int) == 0) = false := by rw [beq_eq_false_iff_ne]; omega
          go_enter Tryd.func90, Tryd.ntmps90
          go_wp2
          go_ret
          exact ⟨false, rfl, ⟨(fun h => by cases h), fun h => absurd h HZ.out⟩, World.grownBy_alloc _ _ _⟩
      · have HZ : Hid (¬MP) := fun h => g2 (hme.1 h).2.1
        clear hme
        subst g1
        have t3 : ((nk : Int) == 0) = false := by rw [beq_eq_false_iff_ne]; omega
        go_enter Tryd.func90, Tryd.ntmps90
        go_wp2
        go_ret
        exact ⟨false, rfl, ⟨(fun h => by cases h), fun h => absurd h HZ.out⟩, World.grownBy_alloc _ _ _⟩
    · have HZ : Hid (¬MP) := fun h => g1 (hme.1 h).1
      clear hme
      have t3 : ((ns : Int) == 0) = false := by rw [beq_eq_false_iff_ne]; omega
      go_enter Tryd.func90, Tryd.ntmps90
      go_wp2
      go_ret
      exact ⟨false, rfl, ⟨(fun h => by cases h), fun h => absurd h HZ.out⟩, World.grownBy_alloc _ _ _⟩
  | false =>
    have hme := may_some (k := k) he
    obtain ⟨W1, hW1⟩ : ∃ W1 : World, W1 = w.alloc (.cells #[.bool false, .slice sa p.steps.length sc, .slice ka p.pair.1.length kc, .slice va p.pair.2.length vc] 29) := ⟨_, rfl⟩
    have hgW : w.grownBy W1 none := by rw [hW1]; exact World.grownBy_alloc _ _ _
    have HW1 : Hid (W1 = w.alloc (.cells #[.bool false, .slice sa p.steps.length sc, .slice ka p.pair.1.length kc, .slice va p.pair.2.length vc] 29)) := hW1
    have bP : W1.heap[w.heap.size]? = some (.cells #[.bool false, .slice sa p.steps.length sc, .slice ka p.pair.1.length kc, .slice va p.pair.2.length vc] 29) := by rw [hW1]; exact heap_alloc_new w _
    obtain ⟨⟨a0, a1, a2, a3⟩, _⟩ := quad_room (grown_refl W1 none) bP
    have PF : Hid (Calls Tryd.prog 110 #[.agg #[.slice ka p.pair.1.length kc, .slice va p.pair.2.length vc]] W1 fun e w' => e = .returned (.int .i64 (pairFaultF p.pair)) ∧ W1.grownBy w' none) := rpairFault_any W1 ka va p.pair kc vc
    by_cases hp : pairFaultF p.pair = 0
    · have hq := ((pairFault_iff _).1 hp).1
      have AK : Hid (∀ w', W1.grownBy w' none → Calls Tryd.prog 58 #[.slice ua k.length uc] w' fun e w'' => ∃ v', e = .returned v' ∧ OwnB w'.heap.size w'' v' (bitsN k 145) ∧ w'.grownBy w'' none) := fun w' hg => allBits_any w' _ k (hu.grown (grown_trans hgW hg)) hk.2
      have AQ : Hid (∀ w', W1.grownBy w' none → Calls Tryd.prog 58 #[.slice ka p.pair.1.length kc] w' fun e w'' => ∃ v', e = .returned v' ∧ OwnB w'.heap.size w'' v' (bitsN p.pair.1 145) ∧ w'.grownBy w'' none) := fun w' hg => allBits_any w' _ _ (h1.grown (grown_trans hgW hg)) hq.2
      have HS : Hid (StepsIs W1 (.slice sa p.steps.length sc) p.steps) := hs.grown hgW
      have NO : Hid (∀ i, i < p.steps.length → ¬StepMay k p.pair.1 p.steps i → ¬May k p) := fun i hi hn h => hn ((hme.1 h).2 i hi)
      have YES : Hid ((∀ i, i < p.steps.length → StepMay k p.pair.1 p.steps i) → May k p) := fun h => hme.2 ⟨hp, h⟩
      have hfl := hf.1
      have hbk := bitsN_len k 145
      have hbq := bitsN_len p.pair.1 145
      have GK : Hid (∀ i, i < 145 → (bitsN k 145).getD i false = kbit k i) := fun i hi => by
        have := bitsN_get k 145 i hi
        simpa using this
      rw [hp] at PF
      generalize May k p = MP at *
      generalize p.pair.1 = Q at *
      generalize p.pair.2.length = nv at *
      generalize p.steps = S at *
      clear hs h1 h2 hu hf hk he hme hW1 bP hq hp
      go_enter Tryd.func90, Tryd.ntmps90
      go_wp2_with fail
      rw [← HW1.out]
      refine PF.out.mono ?_
      rintro e w1 ⟨rfl, hg1⟩
      go_wp2_with fail
      refine (AK.out _ hg1).mono ?_
      rintro e w2 ⟨v2, rfl, ho2, hg2⟩
      have hg12 := grown_trans hg1 hg2
      have b2 := hg12.cell a2 (by simp)
      obtain ⟨ba, bc, rfl⟩ := ho2.shape
      go_wp2_with fail
      refine (AQ.out _ hg12).mono ?_
      rintro e w3 ⟨v3, rfl, ho3, hg3⟩
      have hg13 := grown_trans hg12 hg3
      have b1 := hg13.cell a1 (by simp)
      obtain ⟨g1, cap1, e, hc1⟩ := (ho2.grownNone hg3).block (by intro e; rw [e] at hbk; simp at hbk)
      cases e
      obtain ⟨g2, cap2, rfl, hc2⟩ := ho3.block (by intro e; rw [e] at hbq; simp at hbq)
      rw [hbk] at hc1
      rw [hbq] at hc2 ⊢
      have HC1 : Hid (∀ i, i < 145 → w3.cell? ⟨g1, i, none⟩ = some (.bool (kbit k i))) := fun i hi => by rw [hc1 i hi, bitsN_get _ _ _ hi]
      have HC2 : Hid (∀ i, i < 145 → w3.cell? ⟨g2, i, none⟩ = some (.bool (kbit Q i))) := fun i hi => by rw [hc2 i hi, bitsN_get _ _ _ hi]
      have HS3 : Hid (StepsIs w3 (.slice sa S.length sc) S) := HS.out.grown hg13
      have hgw3 := grown_trans hgW hg13
      clear ho2 ho3 hc1 hc2 hbk hbq a0 a1 a2 a3 b2 AK AQ PF HS GK
      go_wp2_with fail
      go_loopw [7] (fun s7 wr => ∃ m : Nat, m ≤ S.length ∧ s7 = .int .i64 (m : Int) ∧ (∀ j, j < m → StepMay k Q S j) ∧ w3.grownBy wr none) (fun s7 _ => S.length - (intOf s7).toNat)
      case atStart => exact ⟨0, by omega, rfl, fun j hj => by omega, grown_refl _ _⟩
      case round =>
        obtain ⟨m, hm, rfl, hdone, hgr⟩ := hrel
        have HD : Hid (∀ j, j < m → StepMay k Q S j) := hdone
        clear hdone
        have c1 := hgr.cell b1 (by simp)
        by_cases hlt : m < S.length
        · obtain ⟨b, o, rfl, hat⟩ := HS3.out.at m hlt
          obtain ⟨vo, x0, x1, x2, so⟩ := hat.grown hgr
          obtain ⟨oa, oc, rfl⟩ := so.shape
          have t1 : (m : Int) < (S.length : Int) := by omega
          have HST0 : Hid (S.getD m noStp = S.getD m noStp) := rfl
          obtain ⟨st, hst⟩ : ∃ st, S.getD m noStp = st := ⟨_, rfl⟩
          have HST : Hid (S.getD m noStp = st) := hst
          rw [hst] at x0 x1 x2
          obtain ⟨V, hV⟩ : ∃ V : World, V = wr.alloc (.cells #[.int .i64 st.bit, .bool st.right, .slice oa st.other.length oc] 71) := ⟨_, rfl⟩
          have hgV : wr.grownBy V none := by rw [hV]; exact World.grownBy_alloc _ _ _
          have HV : Hid (V = wr.alloc (.cells #[.int .i64 st.bit, .bool st.right, .slice oa st.other.length oc] 71)) := hV
          obtain ⟨⟨y0, y1, y2⟩, _⟩ := three_cells (by rw [hV]; exact heap_alloc_new wr _ : V.heap[wr.heap.size]? = some (.cells #[.int .i64 st.bit, .bool st.right, .slice oa st.other.length oc] 71))
          have c1V := hgV.cell c1 (by simp)
          clear hst hat so hV
          by_cases d1 : 0 ≤ st.bit ∧ st.bit ≤ 144
          · have dIn : decide (0 ≤ st.bit ∧ st.bit ≤ 144) = true := decide_eq_true d1
            by_cases d2 : st.other.length = 32
            · have d2' : ((st.other.length : Int) != 32) = false := by simp [d2]
              obtain ⟨B, hB⟩ : ∃ B : Nat, st.bit = (B : Int) := ⟨st.bit.toNat, by omega⟩
              have hB145 : B < 145 := by omega
              have z1 := (grown_trans hgr hgV).cell (HC1.out B hB145) (by simp)
              have z2 := (grown_trans hgr hgV).cell (HC2.out B hB145) (by simp)
              have iB : (B : Int) < 145 := by omega
              have HB : Hid (st.bit = (B : Int)) := hB
              rw [hB] at x0 y0 dIn HV
              clear hB
              have IN : Hid (∀ w', Calls Tryd.prog 54 #[.int .i64 (B : Int), .int .i64 0, .int .i64 144] w' fun e w'' => e = .returned (.bool true) ∧ w'' = w') := fun w' => by
                have := in_any (B : Int) 0 144 w'
                rw [dIn] at this
                exact this
              clear dIn
              by_cases d3 : m = 0
              · subst d3
                rw [Nat.zero_mul, Nat.add_zero] at x0 x1 x2
                obtain ⟨r, hr⟩ : ∃ r, st.right = r := ⟨_, rfl⟩
                have HR : Hid (st.right = r) := hr
                rw [hr] at x1 y1 HV
                clear hr
                have HD1 : Hid (0 ≤ st.bit ∧ st.bit ≤ 144) := d1
                have HD2 : Hid (st.other.length = 32) := d2
                clear d1 d2
                have BAD1 : Hid (kbit k B ≠ r → ¬MP) := fun hne => NO.out 0 hlt (fun h => hne (by have := h.2.2.2.1; rw [HST.out, HB.out, Int.toNat_natCast, HR.out] at this; exact this))
                have BAD2 : Hid (kbit Q B ≠ r → ¬MP) := fun hne => NO.out 0 hlt (fun h => hne (by have := h.2.2.2.2; rw [HST.out, HB.out, Int.toNat_natCast, HR.out] at this; exact this))
                have GOOD : Hid (kbit k B = r → kbit Q B = r → StepMay k Q S 0) := fun g1 g2 => ⟨by rw [HST.out]; exact HD1.out, by rw [HST.out]; exact HD2.out, fun h => by omega, by rw [HST.out, HB.out, Int.toNat_natCast, HR.out]; exact g1, by rw [HST.out, HB.out, Int.toNat_natCast, HR.out]; exact g2⟩
                clear NO YES
                generalize kbit k B = ba at *
                generalize kbit Q B = bb at *
                cases r <;> cases ba
                all_goals
                  first
                    | (have HZ : Hid (¬MP) := BAD1.out (by decide)
                       go_wp2_with fail
                       rw [← HV.out]
                       go_quiet (first | (go_at_call 54; refine Calls.quiet_of_same (IN.out _)))
                       go_wp2_with fail
                       go_quiet (fail)
                       go_wp2
                       go_ret
                       exact ⟨false, rfl, ⟨(fun h => by cases h), fun h => absurd h HZ.out⟩, grown_trans hgw3 (grown_trans hgr (grown_drewN (grown_drewN hgV _) _))⟩)
                    | (cases bb
                       all_goals
                         first
                           | (have HZ : Hid (¬MP) := BAD2.out (by decide)
                              go_wp2_with fail
                              rw [← HV.out]
                              go_quiet (first | (go_at_call 54; refine Calls.quiet_of_same (IN.out _)))
                              go_wp2_with fail
                              go_quiet (fail)
                              go_wp2
                              go_ret
                              exact ⟨false, rfl, ⟨(fun h => by cases h), fun h => absurd h HZ.out⟩, grown_trans hgw3 (grown_trans hgr (grown_drewN (grown_drewN hgV _) _))⟩)
                           | (have HM : Hid (StepMay k Q S 0) := GOOD.out rfl rfl
                              clear BAD1 BAD2 GOOD
                              go_wp2_with fail
                              rw [← HV.out]
                              go_quiet (first | (go_at_call 54; refine Calls.quiet_of_same (IN.out _)))
                              go_wp2_with fail
                              go_quiet (fail)
                              go_wp2_with fail
                              go_roundw
                              case rel =>
                                have hd : ∀ j, j < 0 + 1 → StepMay k Q S j := fun j hj => by
                                  by_cases e : j = 0
                                  · rw [e]; exact HM.out
                                  · exact HD.out j (by omega)
                                refine ⟨0 + 1, ?_, ?_, hd, ?_⟩
                                · omega
                                · go_num
                                · exact grown_trans hgr (grown_drewN hgV _)
                              case measure => simp [intOf]; omega))
              · obtain ⟨n, rfl⟩ : ∃ n, m = n + 1 := ⟨m - 1, by omega⟩
                obtain ⟨b', o', e', hat'⟩ := HS3.out.at n (by omega)
                cases e'
                obtain ⟨_, w0, _⟩ := hat'.grown (grown_trans hgr hgV)
                obtain ⟨pv, hpv⟩ : ∃ pv, S.getD n noStp = pv := ⟨_, rfl⟩
                have HPV : Hid (S.getD n noStp = pv) := hpv
                rw [hpv] at w0
                clear hpv hat'
                have im : (n : Int) < (S.length : Int) := by omega
                have iw : IntKind.i64.wrap (((n + 1 : Nat) : Int) - 1) = (n : Int) := by rw [IntKind.wrap_i64]; omega
                have ip : (0 : Int) < ((n + 1 : Nat) : Int) := by omega
                by_cases d4 : pv.bit < (B : Int)
                · have d4' : decide ((B : Int) ≤ pv.bit) = false := by simp; omega
                  obtain ⟨r, hr⟩ : ∃ r, st.right = r := ⟨_, rfl⟩
                  have HR : Hid (st.right = r) := hr
                  rw [hr] at x1 y1 HV
                  clear hr
                  have HD1 : Hid (0 ≤ st.bit ∧ st.bit ≤ 144) := d1
                  have HD2 : Hid (st.other.length = 32) := d2
                  clear d1 d2
                  have BAD1 : Hid (kbit k B ≠ r → ¬MP) := fun hne => NO.out (n + 1) hlt (fun h => hne (by have := h.2.2.2.1; rw [HST.out, HB.out, Int.toNat_natCast, HR.out] at this; exact this))
                  have BAD2 : Hid (kbit Q B ≠ r → ¬MP) := fun hne => NO.out (n + 1) hlt (fun h => hne (by have := h.2.2.2.2; rw [HST.out, HB.out, Int.toNat_natCast, HR.out] at this; exact this))
                  have GOOD : Hid (kbit k B = r → kbit Q B = r → StepMay k Q S (n + 1)) := fun g1 g2 => ⟨by rw [HST.out]; exact HD1.out, by rw [HST.out]; exact HD2.out, fun _ => by rw [Nat.add_sub_cancel, HST.out, HPV.out, HB.out]; exact d4, by rw [HST.out, HB.out, Int.toNat_natCast, HR.out]; exact g1, by rw [HST.out, HB.out, Int.toNat_natCast, HR.out]; exact g2⟩
                  clear NO YES
                  generalize kbit k B = ba at *
                  generalize kbit Q B = bb at *
                  cases r <;> cases ba
                  all_goals
                    first
                      | (have HZ : Hid (¬MP) := BAD1.out (by decide)
                         go_wp2_with fail
                         rw [← HV.out]
                         go_quiet (first | (go_at_call 54; refine Calls.quiet_of_same (IN.out _)))
                         go_wp2_with fail
                         go_quiet (fail)
                         go_wp2
                         go_ret
                         exact ⟨false, rfl, ⟨(fun h => by cases h), fun h => absurd h HZ.out⟩, grown_trans hgw3 (grown_trans hgr (grown_drewN (grown_drewN hgV _) _))⟩)
                      | (cases bb
                         all_goals
                           first
                             | (have HZ : Hid (¬MP) := BAD2.out (by decide)
                                go_wp2_with fail
                                rw [← HV.out]
                                go_quiet (first | (go_at_call 54; refine Calls.quiet_of_same (IN.out _)))
                                go_wp2_with fail
                                go_quiet (fail)
                                go_wp2
                                go_ret
                                exact ⟨false, rfl, ⟨(fun h => by cases h), fun h => absurd h HZ.out⟩, grown_trans hgw3 (grown_trans hgr (grown_drewN (grown_drewN hgV _) _))⟩)
                             | (have HM : Hid (StepMay k Q S (n + 1)) := GOOD.out rfl rfl
                                clear BAD1 BAD2 GOOD
                                go_wp2_with fail
                                rw [← HV.out]
                                go_quiet (first | (go_at_call 54; refine Calls.quiet_of_same (IN.out _)))
                                go_wp2_with fail
                                go_quiet (fail)
                                go_wp2_with fail
                                go_roundw
                                case rel =>
                                  have hd : ∀ j, j < (n + 1) + 1 → StepMay k Q S j := fun j hj => by
                                    by_cases e : j = (n + 1)
                                    · rw [e]; exact HM.out
                                    · exact HD.out j (by omega)
                                  refine ⟨(n + 1) + 1, ?_, ?_, hd, ?_⟩
                                  · omega
                                  · go_num
                                  · exact grown_trans hgr (grown_drewN hgV _)
                                case measure => simp [intOf]; omega))
                · have d4' : decide ((B : Int) ≤ pv.bit) = true := by simp; omega
                  have HZ : Hid (¬MP) := NO.out (n + 1) hlt (fun h => d4 (by have := h.2.2.1 (by omega); rw [Nat.add_sub_cancel, HST.out, HPV.out, HB.out] at this; exact this))
                  clear NO YES HD
                  try clear d2
                  go_wp2_with fail
                  rw [← HV.out]
                  go_quiet (first | (go_at_call 54; refine Calls.quiet_of_same (IN.out _)))
                  go_wp2
                  go_ret
                  exact ⟨false, rfl, ⟨(fun h => by cases h), fun h => absurd h HZ.out⟩, grown_trans hgw3 (grown_trans hgr (grown_drewN hgV _))⟩
            · have d2' : ((st.other.length : Int) != 32) = true := by simp; omega
              have IN : Hid (∀ w', Calls Tryd.prog 54 #[.int .i64 st.bit, .int .i64 0, .int .i64 144] w' fun e w'' => e = .returned (.bool true) ∧ w'' = w') := fun w' => by
                have := in_any st.bit 0 144 w'
                rw [dIn] at this
                exact this
              have HZ : Hid (¬MP) := NO.out m hlt (fun h => d2 (by have := h.2.1; rw [HST.out] at this; exact this))
              clear NO YES HD
              go_wp2_with fail
              rw [← HV.out]
              go_quiet (first | (go_at_call 54; refine Calls.quiet_of_same (IN.out _)))
              go_wp2
              go_ret
              exact ⟨false, rfl, ⟨(fun h => by cases h), fun h => absurd h HZ.out⟩, grown_trans hgw3 (grown_trans hgr (grown_drewN hgV _))⟩
          · have dIn : decide (0 ≤ st.bit ∧ st.bit ≤ 144) = false := decide_eq_false d1
            have IN : Hid (∀ w', Calls Tryd.prog 54 #[.int .i64 st.bit, .int .i64 0, .int .i64 144] w' fun e w'' => e = .returned (.bool false) ∧ w'' = w') := fun w' => by
              have := in_any st.bit 0 144 w'
              rw [dIn] at this
              exact this
            have HZ : Hid (¬MP) := NO.out m hlt (fun h => d1 (by have := h.1; rw [HST.out] at this; exact this))
            clear NO YES HD
            try clear d2
            go_wp2_with fail
            rw [← HV.out]
            go_quiet (first | (go_at_call 54; refine Calls.quiet_of_same (IN.out _)))
            go_wp2
            go_ret
            exact ⟨false, rfl, ⟨(fun h => by cases h), fun h => absurd h HZ.out⟩, grown_trans hgw3 (grown_trans hgr (grown_drewN hgV _))⟩
        · obtain rfl : m = S.length := by omega
          have HZ : Hid MP := YES.out HD.out
          clear NO YES HD
          go_wp2
          go_ret
          exact ⟨true, rfl, ⟨fun _ => HZ.out, fun _ => rfl⟩, grown_trans hgw3 hgr⟩
    · have HZ : Hid (¬May k p) := fun h => hp (hme.1 h).1
      generalize pairFaultF p.pair = z at *
      have hz' : (z != 0) = true := by simpa using hp
      generalize May k p = MP at *
      clear hs h1 h2 hu hf hk he hme hW1 bP hp
      go_enter Tryd.func90, Tryd.ntmps90
      go_wp2_with fail
      rw [← HW1.out]
      refine PF.out.mono ?_
      rintro e w1 ⟨rfl, hg1⟩
      go_wp2
      go_ret
      exact ⟨false, rfl, ⟨(fun h => by cases h), fun h => absurd h HZ.out⟩, grown_trans hgW hg1⟩
end Go.Proofs.YtkkcjnhfbblgiabDoor

/-
  The walk of the document's answer to P4.2: ProofFault.
-/
namespace Go.Proofs.YtkkcjnhfbblgiabDoor
open Go.RowKit
set_option maxRecDepth 100000 in
set_option maxHeartbeats 2000000 in
theorem proofFault_any (w : World) (u v : Value) (k : List UInt8) (p : Prf) (hu : SliceIs w u k) (hv : ProofIs w v p) (hf : PrfFits p) :
    Calls Tryd.prog 64 #[u, v] w fun e w' => e = .returned (.int .i64 (proofE k p)) ∧ w.grownBy w' none := by
  have hvv := hv
  obtain ⟨vs, vk, vv, rfl, hs, h1, h2⟩ := hv
  obtain ⟨ua, uc, rfl⟩ := hu.shape
  obtain ⟨sa, sc, rfl⟩ := hs.shape
  obtain ⟨ka, kc, rfl⟩ := h1.shape
  obtain ⟨va, vc, rfl⟩ := h2.shape
  obtain ⟨W1, hW1⟩ : ∃ W1 : World, W1 = w.alloc (.cells #[.bool p.empty, .slice sa p.steps.length sc, .slice ka p.pair.1.length kc, .slice va p.pair.2.length vc] 29) := ⟨_, rfl⟩
  have hgW : w.grownBy W1 none := by rw [hW1]; exact World.grownBy_alloc _ _ _
  have HW1 : Hid (W1 = w.alloc (.cells #[.bool p.empty, .slice sa p.steps.length sc, .slice ka p.pair.1.length kc, .slice va p.pair.2.length vc] 29)) := hW1
  have bP : W1.heap[w.heap.size]? = some (.cells #[.bool p.empty, .slice sa p.steps.length sc, .slice ka p.pair.1.length kc, .slice va p.pair.2.length vc] 29) := by rw [hW1]; exact heap_alloc_new w _
  obtain ⟨⟨a0, a1, a2, a3⟩, _⟩ := quad_room (grown_refl W1 none) bP
  have KF : Hid (Calls Tryd.prog 27 #[.slice ua k.length uc] W1 fun e w' => e = .returned (.int .i64 (keyFaultF k.length)) ∧ w' = W1) := keyFault_any W1 ua k.length uc
  by_cases hk : keyFaultF k.length = 0
  · have hkk : 1 ≤ k.length ∧ k.length ≤ 16 := (keyFault_iff _).1 hk
    have PM : Hid (Calls Tryd.prog 90 #[.slice ua k.length uc, .agg #[.bool p.empty, .slice sa p.steps.length sc, .slice ka p.pair.1.length kc, .slice va p.pair.2.length vc]] W1 fun e w' => ∃ z : Bool, e = .returned (.bool z) ∧ (z = true ↔ May k p) ∧ W1.grownBy w' none) :=
      proofMay_any W1 _ _ k p (hu.grown hgW) (hvv.grown hgW) hkk hf
    have E1 : Hid (May k p → proofE k p = 0) := fun hm => proofE_may hk hm
    have E2 : Hid (¬May k p → proofE k p = 4) := fun hm => proofE_not hk hm
    rw [hk] at KF
    generalize proofE k p = PE at *
    generalize May k p = MP at *
    generalize p.steps.length = ns at *
    generalize p.pair.1.length = nk at *
    generalize p.pair.2.length = nv at *
    generalize p.empty = pe at *
    clear hs h1 h2 hu hf hvv hW1 bP hk hkk
    go_enter Tryd.func64, Tryd.ntmps64
    go_wp2_with fail
    rw [← HW1.out]
    refine KF.out.mono ?_
    rintro e w1 ⟨rfl, rfl⟩
    go_wp2_with fail
    refine PM.out.mono ?_
    rintro e w2 ⟨z, rfl, hz, hg2⟩
    cases z with
    | true =>
      have he : PE = 0 := E1.out (hz.1 rfl)
      clear hz
      subst he
      go_wp2
      go_ret
      exact ⟨rfl, grown_trans hgW hg2⟩
    | false =>
      have he : PE = 4 := E2.out (fun h => by have := hz.2 h; cases this)
      clear hz
      subst he
      go_wp2
      go_ret
      exact ⟨rfl, grown_trans hgW hg2⟩
  · have he : Hid (proofE k p = keyFaultF k.length) := proofE_key hk
    generalize proofE k p = PE at *
    generalize keyFaultF k.length = KE at *
    generalize p.steps.length = ns at *
    generalize p.pair.1.length = nk at *
    generalize p.pair.2.length = nv at *
    generalize p.empty = pe at *
    have t1 : (KE == 0) = false := by rw [beq_eq_false_iff_ne]; exact hk
    clear hs h1 h2 hu hf hvv hW1 bP
    go_enter Tryd.func64, Tryd.ntmps64
    go_wp2_with fail
    rw [← HW1.out]
    refine KF.out.mono ?_
    rintro e w1 ⟨rfl, rfl⟩
    go_wp2
    go_ret
    refine ⟨?_, hgW⟩
    rw [he.out]
    rfl
end Go.Proofs.YtkkcjnhfbblgiabDoor
