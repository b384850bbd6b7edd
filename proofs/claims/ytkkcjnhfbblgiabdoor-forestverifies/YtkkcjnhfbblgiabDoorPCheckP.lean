/-
  proof.Check, as it landed, keeps P4.2.
-/
import Derived.Test.YtkkcjnhfbblgiabDoorStepMem
import Derived.Test.YtkkcjnhfbblgiabDoorPart7
import Derived.Test.YtkkcjnhfbblgiabDoorPart5
import Derived.Test.YtkkcjnhfbblgiabDoorPart4
import Derived.Deep.RegionWith
import Derived.Handy
import Derived.BigQuiet
namespace Go.Proofs.YtkkcjnhfbblgiabDoor
open Go.RowKit
/-- A step leads to where a key is. -/
def leadsF (s : Stp) (k : List UInt8) : Bool := decide ((bitF k s.bit).2 = 0) && (bitF k s.bit).1 == s.right
set_option maxRecDepth 100000 in
set_option maxHeartbeats 1000000 in
theorem leads_any (w : World) (kv vo : Value) (s : Stp) (k : List UInt8) (hk : SliceIs w kv k) :
    Calls Tryd.prog 88 #[.agg #[.int .i64 s.bit, .bool s.right, vo], kv] w fun e w' => e = .returned (.bool (leadsF s k)) ∧ w.grownBy w' none := by
  unfold leadsF
  obtain ⟨W1, hW1⟩ : ∃ W1 : World, W1 = w.alloc (.cells #[.int .i64 s.bit, .bool s.right, vo] 71) := ⟨_, rfl⟩
  have hgW : w.grownBy W1 none := by rw [hW1]; exact World.grownBy_alloc _ _ _
  have BT : Hid (Calls Tryd.prog 80 #[kv, .int .i64 s.bit] W1 fun e w' => e = .returned (.tuple #[.bool (bitF k s.bit).1, .int .i64 (bitF k s.bit).2]) ∧ W1.grownBy w' none) := bit_ok W1 kv k s.bit (hk.grown hgW)
  have c0 : W1.cell? ⟨w.heap.size, 0, none⟩ = some (.int .i64 s.bit) := by rw [hW1]; simp
  have c1 : W1.cell? ⟨w.heap.size, 1, none⟩ = some (.bool s.right) := by rw [hW1]; simp
  have HW1 : Hid (W1 = w.alloc (.cells #[.int .i64 s.bit, .bool s.right, vo] 71)) := hW1
  generalize (bitF k s.bit).1 = z at *
  generalize (bitF k s.bit).2 = y at *
  generalize s.bit = sb at *
  generalize s.right = sr at *
  clear hW1 hk
  go_enter Tryd.func88, Tryd.ntmps88
  go_wp2_with fail
  rw [← HW1.out]
  go_wp2_with fail
  refine BT.out.mono ?_
  rintro e w2 ⟨rfl, hg2⟩
  have d1 := hg2.cell c1 (by simp)
  by_cases hy : y = 0
  · subst hy
    go_wp2
    go_ret
    exact ⟨by simp, grown_trans hgW hg2⟩
  · have hy' : (y == 0) = false := by simpa using hy
    go_wp2
    go_ret
    exact ⟨by simp [hy], grown_trans hgW hg2⟩
theorem leadsF_iff (s : Stp) (k : List UInt8) (hk : 1 ≤ k.length ∧ k.length ≤ 16) : leadsF s k = true ↔ (0 ≤ s.bit ∧ s.bit ≤ 144) ∧ kbit k s.bit.toNat = s.right := by
  unfold leadsF bitF
  rw [if_pos hk]
  by_cases h : 0 ≤ s.bit ∧ s.bit ≤ 144
  · rw [if_pos h]; simp [h]
  · rw [if_neg h]; simp [h]
set_option maxRecDepth 100000 in
set_option maxHeartbeats 1000000 in
theorem checkEmpty_any (w : World) (z : Bool) (sa ka va : Option Addr) (ns sc nk kc nv vc : Nat) :
    Calls Tryd.prog 87 #[.agg #[.bool z, .slice sa ns sc, .slice ka nk kc, .slice va nv vc]] w fun e w' => e = .returned (.int .i64 (if ns = 0 ∧ nk = 0 ∧ nv = 0 then 0 else 4)) ∧ w.grownBy w' none := by
  by_cases h1 : ns = 0
  · by_cases h2 : nk = 0
    · by_cases h3 : nv = 0
      · rw [if_pos ⟨h1, h2, h3⟩]
        subst h1 h2 h3
        go_enter Tryd.func87, Tryd.ntmps87
        go_wp2
        go_ret
        exact ⟨rfl, World.grownBy_alloc _ _ _⟩
      · rw [if_neg (fun h => h3 h.2.2)]
        subst h1 h2
        have t3 : (0 : Int) < (nv : Int) := by omega
        go_enter Tryd.func87, Tryd.ntmps87
        go_wp2
        go_ret
        exact ⟨rfl, World.grownBy_alloc _ _ _⟩
    · rw [if_neg (fun h => h2 h.2.1)]
      subst h1
      have t3 : (0 : Int) < (nk : Int) := by omega
      go_enter Tryd.func87, Tryd.ntmps87
      go_wp2
      go_ret
      exact ⟨rfl, World.grownBy_alloc _ _ _⟩
  · rw [if_neg (fun h => h1 h.1)]
    have t3 : (0 : Int) < (ns : Int) := by omega
    go_enter Tryd.func87, Tryd.ntmps87
    go_wp2
    go_ret
    exact ⟨rfl, World.grownBy_alloc _ _ _⟩
theorem proofE_empty (k : List UInt8) (p : Prf) (hk : keyFaultF k.length = 0) (he : p.empty = true) : proofE k p = if p.steps.length = 0 ∧ p.pair.1.length = 0 ∧ p.pair.2.length = 0 then 0 else 4 := by
  by_cases h : p.steps.length = 0 ∧ p.pair.1.length = 0 ∧ p.pair.2.length = 0
  · rw [if_pos h]
    exact proofE_may hk (.inl ⟨he, List.length_eq_zero_iff.1 h.1, List.length_eq_zero_iff.1 h.2.1, List.length_eq_zero_iff.1 h.2.2⟩)
  · rw [if_neg h]
    refine proofE_not hk fun hm => ?_
    rcases hm with ⟨_, h1, h2, h3⟩ | ⟨h1, _⟩
    · exact h ⟨by rw [h1]; rfl, by rw [h2]; rfl, by rw [h3]; rfl⟩
    · rw [he] at h1; cases h1
/-- The bit of the step ahead. -/
def lastBit (l : List Stp) (i : Nat) : Int := if i = 0 then -1 else (l.getD (i - 1) noStp).bit
theorem stepMay_iff (k q : List UInt8) (l : List Stp) (i : Nat) (hk : 1 ≤ k.length ∧ k.length ≤ 16) (hq : 1 ≤ q.length ∧ q.length ≤ 16) :
    StepMay k q l i ↔ lastBit l i < (l.getD i noStp).bit ∧ leadsF (l.getD i noStp) k = true ∧ leadsF (l.getD i noStp) q = true ∧ (l.getD i noStp).other.length = 32 := by
  unfold StepMay lastBit
  rw [leadsF_iff _ k hk, leadsF_iff _ q hq]
  by_cases h0 : i = 0
  · rw [if_pos h0]
    constructor
    · rintro ⟨h1, h2, h3, h4, h5⟩; exact ⟨by omega, ⟨h1, h4⟩, ⟨h1, h5⟩, h2⟩
    · rintro ⟨h1, ⟨h2, h3⟩, ⟨_, h4⟩, h5⟩; exact ⟨h2, h5, fun h => by omega, h3, h4⟩
  · rw [if_neg h0]
    constructor
    · rintro ⟨h1, h2, h3, h4, h5⟩; exact ⟨h3 (by omega), ⟨h1, h4⟩, ⟨h1, h5⟩, h2⟩
    · rintro ⟨h1, ⟨h2, h3⟩, ⟨_, h4⟩, h5⟩; exact ⟨h2, h5, fun _ => h1, h3, h4⟩
theorem fits_one {p : Pr} (h1 : p.1.length ≤ 140737488355328) (h2 : p.2.length ≤ 140737488355328) : Fits [p] := by
  refine ⟨by simp, fun i hi => ?_⟩
  obtain rfl : i = 0 := by simpa using hi
  exact ⟨h1, h2⟩
theorem pairsFault_one (p : Pr) : pairsFaultF [p] = pairFaultF p := by
  by_cases h : faultAt [p] 0 = 0
  · rw [pairsFault_none [p] (by simp) (fun j hj => by
      obtain rfl : j = 0 := by simpa using hj
      exact h)]
    exact ((faultAt_iff _ _).1 h).1.symm
  · rw [pairsFault_at [p] 0 (by simp) (by simp) (fun j hj => by omega) h]
    unfold faultAt
    by_cases hp : pairFaultF p = 0
    · exact absurd ((faultAt_iff [p] 0).2 ⟨hp, fun h => by omega⟩) h
    · simp [hp]
theorem one_pair (w : World) (t : TypeId) (vk vv : Value) (p : Pr) (h1 : SliceIs w vk p.1) (h2 : SliceIs w vv p.2) (nb : Nat) (hnb : nb = w.heap.size) :
    PairsIs (w.alloc (.cells #[vk, vv] t)) (.slice (some ⟨nb, 0, none⟩) 1 1) [p] := by
  subst hnb
  refine ⟨_, 1, rfl, by simp, .inr ⟨w.heap.size, 0, rfl, fun i hi => ?_⟩⟩
  obtain rfl : i = 0 := by simpa using hi
  exact ⟨vk, vv, by simp, by simp, h1.alloc _, h2.alloc _⟩
set_option maxRecDepth 100000 in
set_option maxHeartbeats 2000000 in
theorem pcheck_ok : PCheckOK := by
  intro w u v k p hu hv hf
  obtain ⟨vs, vk, vv, rfl, hs, h1, h2⟩ := hv
  obtain ⟨ua, uc, rfl⟩ := hu.shape
  obtain ⟨sa, sc, rfl⟩ := hs.shape
  obtain ⟨ka, kc, rfl⟩ := h1.shape
  obtain ⟨va, vc, rfl⟩ := h2.shape
  obtain ⟨W1, hW1⟩ : ∃ W1 : World, W1 = w.alloc (.cells #[.bool p.empty, .slice sa p.steps.length sc, .slice ka p.pair.1.length kc, .slice va p.pair.2.length vc] 29) := ⟨_, rfl⟩
  have hgW : w.grownBy W1 none := by rw [hW1]; exact World.grownBy_alloc _ _ _
  have HW1 : Hid (W1 = w.alloc (.cells #[.bool p.empty, .slice sa p.steps.length sc, .slice ka p.pair.1.length kc, .slice va p.pair.2.length vc] 29)) := hW1
  have CK : Hid (Calls Tryd.prog 50 #[.slice ua k.length uc] W1 fun e w' => e = .returned (.int .i64 (keyFaultF k.length)) ∧ W1.grownBy w' none) := check_ok W1 ua k.length uc
  have c0 : W1.cell? ⟨w.heap.size, 0, none⟩ = some (.bool p.empty) := by rw [hW1]; simp
  have c1 : W1.cell? ⟨w.heap.size, 1, none⟩ = some (.slice sa p.steps.length sc) := by rw [hW1]; simp
  have c2 : W1.cell? ⟨w.heap.size, 2, none⟩ = some (.slice ka p.pair.1.length kc) := by rw [hW1]; simp
  have c3 : W1.cell? ⟨w.heap.size, 3, none⟩ = some (.slice va p.pair.2.length vc) := by rw [hW1]; simp
  by_cases hk : keyFaultF k.length = 0
  · rw [hk] at CK
    by_cases he : p.empty = true
    · rw [proofE_empty k p hk he]
      rw [he] at HW1 c0 ⊢
      generalize p.steps.length = ns at *
      generalize p.pair.1.length = nk at *
      generalize p.pair.2.length = nv at *
      obtain ⟨E, hE⟩ : ∃ E : Int, E = if ns = 0 ∧ nk = 0 ∧ nv = 0 then 0 else 4 := ⟨_, rfl⟩
      have CE : Hid (∀ w', Calls Tryd.prog 87 #[.agg #[.bool true, .slice sa ns sc, .slice ka nk kc, .slice va nv vc]] w' fun e w'' => e = .returned (.int .i64 E) ∧ w'.grownBy w'' none) := fun w' => by
        rw [hE]; exact checkEmpty_any _ _ _ _ _ _ _ _ _ _ _
      rw [← hE]
      clear hs h1 h2 hW1 hf hu hk he hE
      go_enter Tryd.func61, Tryd.ntmps61
      go_wp2_with fail
      rw [← HW1.out]
      refine CK.out.mono ?_
      rintro e w1 ⟨rfl, hg1⟩
      have d0 := hg1.cell c0 (by simp)
      have d1 := hg1.cell c1 (by simp)
      have d2 := hg1.cell c2 (by simp)
      have d3 := hg1.cell c3 (by simp)
      go_wp2_with fail
      refine (CE.out _).mono ?_
      rintro e w2 ⟨rfl, hg2⟩
      go_wp2
      go_ret
      exact ⟨rfl, grown_trans hgW (grown_trans hg1 hg2)⟩
    · have he' : p.empty = false := by simpa using he
      have hk' := (keyFault_iff _).1 hk
      have TC : Hid (∀ w', w.grownBy w' none → Calls Tryd.prog 44 #[.slice (some ⟨w'.heap.size, 0, none⟩) 1 1] (w'.alloc (.cells #[.slice ka p.pair.1.length kc, .slice va p.pair.2.length vc] 27)) fun e w'' => e = .returned (.int .i64 (pairFaultF p.pair)) ∧ w'.grownBy w'' none) := by
        intro w' hg
        refine (tcheck_ok _ _ [p.pair] (one_pair w' _ _ _ p.pair (h1.grown hg) (h2.grown hg) _ rfl) (fits_one hf.2.2.1 hf.2.2.2)).mono ?_
        rintro e w'' ⟨rfl, hg2⟩
        exact ⟨by rw [pairsFault_one], grown_trans (World.grownBy_alloc _ _ _) hg2⟩
      by_cases hp : pairFaultF p.pair = 0
      · have hq' := ((pairFault_iff _).1 hp).1
        have MAY : Hid (∀ i, StepMay k p.pair.1 p.steps i ↔ lastBit p.steps i < (p.steps.getD i noStp).bit ∧ leadsF (p.steps.getD i noStp) k = true ∧ leadsF (p.steps.getD i noStp) p.pair.1 = true ∧ (p.steps.getD i noStp).other.length = 32) := fun i => stepMay_iff k p.pair.1 p.steps i hk' hq'
        have NO : Hid (∀ i, i < p.steps.length → ¬StepMay k p.pair.1 p.steps i → proofE k p = 4) := fun i hi hn => proofE_not hk fun hm => by
          rcases hm with ⟨h, _⟩ | ⟨_, _, h⟩
          · exact he h
          · exact hn (h i hi)
        have YES : Hid ((∀ i, i < p.steps.length → StepMay k p.pair.1 p.steps i) → proofE k p = 0) := fun h => proofE_may hk (.inr ⟨he', hp, h⟩)
        have LK : Hid (∀ w' s vo, w.grownBy w' none → Calls Tryd.prog 88 #[.agg #[.int .i64 s.bit, .bool s.right, vo], .slice ua k.length uc] w' fun e w'' => e = .returned (.bool (leadsF s k)) ∧ w'.grownBy w'' none) := fun w' s vo hg => leads_any w' _ vo s k (hu.grown hg)
        have LQ : Hid (∀ w' s vo, w.grownBy w' none → Calls Tryd.prog 88 #[.agg #[.int .i64 s.bit, .bool s.right, vo], .slice ka p.pair.1.length kc] w' fun e w'' => e = .returned (.bool (leadsF s p.pair.1)) ∧ w'.grownBy w'' none) := fun w' s vo hg => leads_any w' _ vo s p.pair.1 (h1.grown hg)
        have HS : Hid (StepsIs w (.slice sa p.steps.length sc) p.steps) := hs
        have hfl := hf.1
        rw [hp] at TC
        rw [he'] at HW1 c0 ⊢
        generalize proofE k p = E at *
        generalize p.pair.1.length = nk at *
        generalize p.pair.2.length = nv at *
        generalize p.pair.1 = Q at *
        generalize p.steps = S at *
        clear hs h1 h2 hW1 hf hu hk he he' hp hk' hq'
        go_enter Tryd.func61, Tryd.ntmps61
        go_wp2_with fail
        rw [← HW1.out]
        refine CK.out.mono ?_
        rintro e w1 ⟨rfl, hg1⟩
        have d0 := hg1.cell c0 (by simp)
        have d1 := hg1.cell c1 (by simp)
        have d2 := hg1.cell c2 (by simp)
        have d3 := hg1.cell c3 (by simp)
        have hgw1 := grown_trans hgW hg1
        go_wp2_with fail
        refine (TC.out _ hgw1).mono ?_
        rintro e w2 ⟨rfl, hg2⟩
        have e1 := hg2.cell d1 (by simp)
        have e2 := hg2.cell d2 (by simp)
        have hgw2 := grown_trans hgw1 hg2
        clear d0 d1 d2 d3 c0 c1 c2 c3
        go_wp2_with fail
        go_loopw [6, 26] (fun s6 s26 wr => ∃ m : Nat, m ≤ S.length ∧ s6 = .int .i64 (lastBit S m) ∧ s26 = .int .i64 (m : Int) ∧ (∀ j, j < m → StepMay k Q S j) ∧ w2.grownBy wr none) (fun _ s26 _ => S.length - (intOf s26).toNat)
        case atStart => exact ⟨0, by omega, rfl, rfl, fun j hj => by omega, grown_refl _ _⟩
        case round =>
          obtain ⟨m, hm, rfl, rfl, hdone, hgr⟩ := hrel
          have HD : Hid (∀ j, j < m → StepMay k Q S j) := hdone
          clear hdone
          by_cases hlt : m < S.length
          · obtain ⟨b, o, rfl, hat⟩ := HS.out.at m hlt
            obtain ⟨vo, x1, x2, x3, s1⟩ := hat.grown (grown_trans hgw2 hgr)
            have t1 : (m : Int) < (S.length : Int) := by omega
            have MM : Hid (StepMay k Q S m ↔ lastBit S m < (S.getD m noStp).bit ∧ leadsF (S.getD m noStp) k = true ∧ leadsF (S.getD m noStp) Q = true ∧ (S.getD m noStp).other.length = 32) := MAY.out m
            have NM : Hid (¬StepMay k Q S m → E = 4) := NO.out m hlt
            have LB : Hid (lastBit S (m + 1) = (S.getD m noStp).bit) := by
              show _ = _
              rw [lastBit, if_neg (by omega), Nat.add_sub_cancel]
            obtain ⟨oa, oc, rfl⟩ := s1.shape
            generalize S.getD m noStp = st at *
            generalize lastBit S m = lb at *
            have f2 := hgr.cell e2 (by simp)
            have f1 := hgr.cell e1 (by simp)
            clear hat s1 e1 e2
            have hg2r := grown_trans hgw2 hgr
            have hga := World.grownBy_alloc wr (.cells #[.int .i64 st.bit, .bool st.right, .slice oa st.other.length oc] 71) none
            obtain ⟨⟨y0, y1, y2⟩, _⟩ := three_cells (heap_alloc_new wr (.cells #[.int .i64 st.bit, .bool st.right, .slice oa st.other.length oc] 71))
            have g2 := hga.cell f2 (by simp)
            by_cases h1 : lb < st.bit
            · have h1n : decide (st.bit ≤ lb) = false := by simp; omega
              have LK1 : Hid (∀ w', w.grownBy w' none → Calls Tryd.prog 88 #[.agg #[.int .i64 st.bit, .bool st.right, .slice oa st.other.length oc], .slice ua k.length uc] w' fun e w'' => e = .returned (.bool (leadsF st k)) ∧ w'.grownBy w'' none) := fun w' hg => LK.out w' st _ hg
              have LQ1 : Hid (∀ w', w.grownBy w' none → Calls Tryd.prog 88 #[.agg #[.int .i64 st.bit, .bool st.right, .slice oa st.other.length oc], .slice ka nk kc] w' fun e w'' => e = .returned (.bool (leadsF st Q)) ∧ w'.grownBy w'' none) := fun w' hg => LQ.out w' st _ hg
              clear LK LQ
              cases hl1 : leadsF st k with
              | false =>
                rw [hl1] at LK1
                have HE : Hid (E = 4) := NM.out fun h => by have := (MM.out.1 h).2.1; rw [hl1] at this; cases this
                clear hl1
                go_wp2_with fail
                refine (LK1.out _ (grown_trans hg2r hga)).mono ?_
                rintro e w3 ⟨rfl, hg3⟩
                have z0 := hg3.cell y0 (by simp)
                have z2 := hg3.cell y2 (by simp)
                go_wp2
                go_ret
                exact ⟨by rw [HE.out]; rfl, grown_trans hg2r (grown_trans hga hg3)⟩
              | true =>
                rw [hl1] at LK1
                cases hl2 : leadsF st Q with
                | false =>
                  rw [hl2] at LQ1
                  have HE : Hid (E = 4) := NM.out fun h => by have := (MM.out.1 h).2.2.1; rw [hl2] at this; cases this
                  clear hl1 hl2
                  go_wp2_with fail
                  refine (LK1.out _ (grown_trans hg2r hga)).mono ?_
                  rintro e w3 ⟨rfl, hg3⟩
                  have z0 := hg3.cell y0 (by simp)
                  have z1 := hg3.cell y1 (by simp)
                  have z2 := hg3.cell y2 (by simp)
                  have g3 := hg3.cell g2 (by simp)
                  go_wp2_with fail
                  refine (LQ1.out _ (grown_trans hg2r (grown_trans hga hg3))).mono ?_
                  rintro e w4 ⟨rfl, hg4⟩
                  go_wp2
                  go_ret
                  exact ⟨by rw [HE.out]; rfl, grown_trans hg2r (grown_trans hga (grown_trans hg3 hg4))⟩
                | true =>
                  rw [hl2] at LQ1
                  by_cases hl3 : st.other.length = 32
                  · have HM : Hid (StepMay k Q S m) := MM.out.2 ⟨h1, hl1, hl2, hl3⟩
                    have t3 : ((st.other.length : Int) != 32) = false := by simp [hl3]
                    clear hl1 hl2 hl3 MM NM NO YES
                    go_wp2_with fail
                    refine (LK1.out _ (grown_trans hg2r hga)).mono ?_
                    rintro e w3 ⟨rfl, hg3⟩
                    have z0 := hg3.cell y0 (by simp)
                    have z1 := hg3.cell y1 (by simp)
                    have z2 := hg3.cell y2 (by simp)
                    have g3 := hg3.cell g2 (by simp)
                    go_wp2_with fail
                    refine (LQ1.out _ (grown_trans hg2r (grown_trans hga hg3))).mono ?_
                    rintro e w4 ⟨rfl, hg4⟩
                    have k0 := hg4.cell z0 (by simp)
                    have k2 := hg4.cell z2 (by simp)
                    go_wp2_with fail
                    go_roundw
                    case rel =>
                      have hd : ∀ j, j < m + 1 → StepMay k Q S j := fun j hj => by
                        by_cases e : j = m
                        · subst e; exact HM.out
                        · exact HD.out j (by omega)
                      first
                        | exact ⟨m + 1, by omega, by rw [LB.out], by go_num, hd, grown_trans hgr (grown_trans hga (grown_trans hg3 hg4))⟩
                        | ((repeat apply Exists.intro); refine ⟨⟨m + 1, by omega, by rw [LB.out], ?_, hd, grown_trans hgr (grown_trans hga (grown_trans hg3 hg4))⟩, rfl⟩; go_num)
                    case measure => simp [intOf]; omega
                  · have HE : Hid (E = 4) := NM.out fun h => hl3 (MM.out.1 h).2.2.2
                    have t3 : ¬ (st.other.length : Int) = 32 := by omega
                    clear hl1 hl2 MM NM NO YES
                    go_wp2_with fail
                    refine (LK1.out _ (grown_trans hg2r hga)).mono ?_
                    rintro e w3 ⟨rfl, hg3⟩
                    have z0 := hg3.cell y0 (by simp)
                    have z1 := hg3.cell y1 (by simp)
                    have z2 := hg3.cell y2 (by simp)
                    have g3 := hg3.cell g2 (by simp)
                    go_wp2_with fail
                    refine (LQ1.out _ (grown_trans hg2r (grown_trans hga hg3))).mono ?_
                    rintro e w4 ⟨rfl, hg4⟩
                    have k2 := hg4.cell z2 (by simp)
                    go_wp2
                    go_ret
                    exact ⟨by rw [HE.out]; rfl, grown_trans hg2r (grown_trans hga (grown_trans hg3 hg4))⟩
            · have HE : Hid (E = 4) := NM.out fun h => h1 (MM.out.1 h).1
              have h1' : decide (st.bit ≤ lb) = true := by simp; omega
              clear MM NM NO YES LK LQ h1
              go_wp2
              go_ret
              exact ⟨by rw [HE.out]; rfl, grown_trans hg2r hga⟩
          · obtain rfl : m = S.length := by omega
            have HE : Hid (E = 0) := YES.out HD.out
            clear NO YES MAY HD
            go_wp2
            go_ret
            exact ⟨by rw [HE.out]; rfl, grown_trans hgw2 hgr⟩
      · have HE : Hid (proofE k p = 4) := proofE_not hk fun hm => by
          rcases hm with ⟨h, _⟩ | ⟨_, h, _⟩
          · exact he h
          · exact hp h
        rw [he'] at HW1 c0 ⊢
        generalize proofE k p = E at *
        generalize pairFaultF p.pair = z at *
        have hz' : (z != 0) = true := by simpa using hp
        clear hs h1 h2 hW1 hf hu hk he he' hk'
        go_enter Tryd.func61, Tryd.ntmps61
        go_wp2_with fail
        rw [← HW1.out]
        refine CK.out.mono ?_
        rintro e w1 ⟨rfl, hg1⟩
        have d0 := hg1.cell c0 (by simp)
        have d1 := hg1.cell c1 (by simp)
        have d2 := hg1.cell c2 (by simp)
        have d3 := hg1.cell c3 (by simp)
        have hgw1 := grown_trans hgW hg1
        go_wp2_with fail
        refine (TC.out _ hgw1).mono ?_
        rintro e w2 ⟨rfl, hg2⟩
        go_wp2
        go_ret
        exact ⟨by rw [HE.out]; rfl, grown_trans hgw1 hg2⟩
  · rw [proofE_key hk]
    generalize keyFaultF k.length = z at *
    have hz' : (z != 0) = true := by simpa using hk
    clear hs h1 h2 hW1 hf hu
    go_enter Tryd.func61, Tryd.ntmps61
    go_wp2_with fail
    rw [← HW1.out]
    refine CK.out.mono ?_
    rintro e w1 ⟨rfl, hg1⟩
    go_wp2
    go_ret
    exact ⟨rfl, grown_trans hgW hg1⟩
end Go.Proofs.YtkkcjnhfbblgiabDoor
