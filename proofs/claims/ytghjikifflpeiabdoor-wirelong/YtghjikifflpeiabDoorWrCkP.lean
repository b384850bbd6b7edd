/-
  wire.Check, as it landed, keeps P9.2.
-/
import Derived.Test.YtghjikifflpeiabDoorRqCk
import Derived.Test.YtghjikifflpeiabDoorWrCkF
import Derived.Test.YtghjikifflpeiabDoorWrHas
import Derived.Test.YtghjikifflpeiabDoorWrIdx
import Derived.Test.YtghjikifflpeiabDoorFNameP
import Derived.Test.YtghjikifflpeiabDoorCheckC
import Derived.BigQuiet
import Derived.Deep.DeepCutAuto
namespace Go.Proofs.YtghjikifflpeiabDoor
open Go.RowKit
theorem pck_any (w : World) (a : Option Addr) (n cap : Nat) : Calls Tryd.prog 24 #[.slice a n cap] w fun e w' => e = .returned (.int .i64 (keyFaultF n)) ∧ w' = w := by
  by_cases h1 : 1 ≤ n
  · by_cases h2 : n ≤ 16
    · rw [keyFaultF, if_pos ⟨h1, h2⟩]
      have t1 : ¬ (n : Int) < 1 := by omega
      have t2 : ¬ (n : Int) > 16 := by omega
      go_enter Tryd.func24, Tryd.ntmps24
      go_wp2
      go_ret
      exact ⟨rfl, rfl⟩
    · rw [keyFaultF, if_neg (by omega)]
      have t1 : ¬ (n : Int) < 1 := by omega
      have t2 : (n : Int) > 16 := by omega
      go_enter Tryd.func24, Tryd.ntmps24
      go_wp2
      go_ret
      exact ⟨rfl, rfl⟩
  · rw [keyFaultF, if_neg (by omega)]
    have t1 : (n : Int) < 1 := by omega
    go_enter Tryd.func24, Tryd.ntmps24
    go_wp2
    go_ret
    exact ⟨rfl, rfl⟩
set_option maxRecDepth 100000 in
set_option maxHeartbeats 2000000 in
theorem rqcheck_ok : RqCheckOK := by
  intro w v r hT hv hf
  obtain ⟨n1, n2, k1, k2, l1, l2, v1, v2, rfl⟩ := hv.agg
  obtain ⟨W0, HW0, hg0, B0⟩ := alloc_namedR w (.cells #[.int .i64 r.kind, .slice n1 r.name.length n2, .slice k1 r.key.length k2, .slice l1 r.last.length l2, .slice v1 r.value.length v2] 24)
  obtain ⟨⟨c0, c1, c2, c3, c4⟩, hfz, _⟩ := five_room (grown_refl W0 none) B0.out
  clear hfz
  have IK : Hid (Calls Tryd.prog 15 #[.int .i64 r.kind] W0 fun e w' => e = .returned (.bool (decide (1 ≤ r.kind ∧ r.kind ≤ 8))) ∧ w' = W0) := isKind_any _ _
  by_cases hk : 1 ≤ r.kind ∧ r.kind ≤ 8
  · rw [decide_eq_true hk] at IK
    rw [ck_req r hk]
    obtain ⟨k, hK⟩ : ∃ k : Nat, r.kind = (k : Int) := ⟨r.kind.toNat, by omega⟩
    have hT0 := hT.grown hg0
    have H0 : Hid (∀ w', W0.grownBy w' none → Calls Tryd.prog 18 #[.int .i64 r.kind, .int .u8 1] w' fun e w'' => e = .returned (.bool (hasP r.kind 0)) ∧ w'' = w') := fun w' hg => by rw [hK]; exact has_any w' (hT0.grown hg) k 0 (by omega) (by omega)
    have H1 : Hid (∀ w', W0.grownBy w' none → Calls Tryd.prog 18 #[.int .i64 r.kind, .int .u8 2] w' fun e w'' => e = .returned (.bool (hasP r.kind 1)) ∧ w'' = w') := fun w' hg => by rw [hK]; exact has_any w' (hT0.grown hg) k 1 (by omega) (by omega)
    have H2 : Hid (∀ w', W0.grownBy w' none → Calls Tryd.prog 18 #[.int .i64 r.kind, .int .u8 4] w' fun e w'' => e = .returned (.bool (hasP r.kind 2)) ∧ w'' = w') := fun w' hg => by rw [hK]; exact has_any w' (hT0.grown hg) k 2 (by omega) (by omega)
    have H3 : Hid (∀ w', W0.grownBy w' none → Calls Tryd.prog 18 #[.int .i64 r.kind, .int .u8 8] w' fun e w'' => e = .returned (.bool (hasP r.kind 3)) ∧ w'' = w') := fun w' hg => by rw [hK]; exact has_any w' (hT0.grown hg) k 3 (by omega) (by omega)
    have NM : Hid (Calls Tryd.prog 23 #[.slice n1 r.name.length n2] W0 fun e w' => e = .returned (.int .i64 (nameFaultF r.name.length)) ∧ w' = W0) := fnm_any _ _ _ _
    have KC : Hid (Calls Tryd.prog 24 #[.slice k1 r.key.length k2] W0 fun e w' => e = .returned (.int .i64 (keyFaultF r.key.length)) ∧ w' = W0) := pck_any _ _ _ _
    have LC : Hid (Calls Tryd.prog 24 #[.slice l1 r.last.length l2] W0 fun e w' => e = .returned (.int .i64 (keyFaultF r.last.length)) ∧ w' = W0) := pck_any _ _ _ _
    have TX : Hid (Calls Tryd.prog 17 #[.agg #[.int .i64 r.kind, .slice n1 r.name.length n2, .slice k1 r.key.length k2, .slice l1 r.last.length l2, .slice v1 r.value.length v2]] W0 fun e w' => e = .returned (.agg #[.slice n1 r.name.length n2, .slice k1 r.key.length k2, .slice l1 r.last.length l2, .slice v1 r.value.length v2]) ∧ W0.grownBy w' none) := texts_any _ _ _ _ _ _ _ _ _ _ _ _ _ _
    generalize r.kind = K at *
    generalize r.name.length = n at *
    generalize r.key.length = q at *
    generalize r.last.length = l at *
    generalize r.value.length = x at *
    obtain ⟨Z, hZ⟩ : ∃ Z, Z = ckE K n q l x := ⟨_, rfl⟩
    have HZ : Hid (Z = ckE K n q l x) := hZ
    rw [← hZ]
    have HB : Hid (badTo K n q l x = badTo K n q l x) := rfl
    clear hZ hv hf hT hT0 hK hk
    generalize hNF : nameFaultF n = NF at *
    generalize hQF : keyFaultF q = QF at *
    generalize hLF : keyFaultF l = LF at *
    have HZ2 : Hid (Z = if (decide (NF ≠ 0) && hasP K 0) = true then NF else if (decide (QF ≠ 0) && hasP K 1) = true then QF else if (decide (LF ≠ 0) && hasP K 2) = true then LF else if 32 < x then 1 else if badTo K n q l x 4 = true then 4 else 0) := by
      show _ = _; rw [HZ.out, ckE, hNF, hQF, hLF]
    clear HZ hNF hQF hLF
    go_enter Tryd.func14, Tryd.ntmps14
    go_upto_region 1 with fail
    rw [← HW0.out]
    obtain ⟨IB, hIB⟩ : ∃ IB, IB = w.heap.size := ⟨_, rfl⟩
    rw [← hIB] at B0 c0 c1 c2 c3 c4 ⊢
    clear hIB
    go_wp2_with fail
    refine IK.out.mono ?_
    rintro e w1 ⟨rfl, hw⟩
    rw [hw]
    clear hw
    go_wp2_with fail
    refine NM.out.mono ?_
    rintro e w1 ⟨rfl, hw⟩
    rw [hw]
    clear hw
    go_upto_region 4 with fail
    go_cut [21] (fun s wx => s = .bool (decide (NF ≠ 0) && hasP K 0) ∧ wx = W0)
    case first =>
      by_cases hz : NF = 0
      · have hzb : (NF != 0) = false := by simp [hz]
        have HR : Hid (false = (decide (NF ≠ 0) && hasP K 0)) := by show _ = _; simp [hz]
        clear hz
        go_wp2_with fail
        go_meet
        case rel => exact ⟨by rw [← HR.out], rfl⟩
      · have hzb : (NF != 0) = true := by simp [hz]
        have HR : Hid (hasP K 0 = (decide (NF ≠ 0) && hasP K 0)) := by show _ = _; simp [hz]
        clear hz
        go_wp2_with fail
        refine (H0.out _ (grown_refl _ _)).mono ?_
        rintro e w2 ⟨rfl, rfl⟩
        go_wp2_with fail
        go_meet
        case rel => exact ⟨by rw [← HR.out], rfl⟩
    case rest =>
    obtain ⟨rfl, hw⟩ := hcut
    rw [hw]
    clear hw
    cases hB0 : (decide (NF ≠ 0) && hasP K 0) with
    | true =>
      have HR : Hid (Z = NF) := by show _ = _; rw [HZ2.out]; rw [if_pos hB0]
      clear hB0
      go_wp2
      go_ret
      exact ⟨by rw [HR.out]; rfl, hg0⟩
    | false =>
      have HB0 : Hid ((decide (NF ≠ 0) && hasP K 0) = false) := hB0
      clear hB0
      go_wp2_with fail
      refine KC.out.mono ?_
      rintro e w1 ⟨rfl, hw⟩
      rw [hw]
      clear hw
      go_upto_region 7 with fail
      go_cut [32] (fun s wx => s = .bool (decide (QF ≠ 0) && hasP K 1) ∧ wx = W0)
      case first =>
        by_cases hz : QF = 0
        · have hzb : (QF != 0) = false := by simp [hz]
          have HR : Hid (false = (decide (QF ≠ 0) && hasP K 1)) := by show _ = _; simp [hz]
          clear hz
          go_wp2_with fail
          go_meet
          case rel => exact ⟨by rw [← HR.out], rfl⟩
        · have hzb : (QF != 0) = true := by simp [hz]
          have HR : Hid (hasP K 1 = (decide (QF ≠ 0) && hasP K 1)) := by show _ = _; simp [hz]
          clear hz
          go_wp2_with fail
          refine (H1.out _ (grown_refl _ _)).mono ?_
          rintro e w2 ⟨rfl, rfl⟩
          go_wp2_with fail
          go_meet
          case rel => exact ⟨by rw [← HR.out], rfl⟩
      case rest =>
      obtain ⟨rfl, hw⟩ := hcut
      rw [hw]
      clear hw
      cases hB1 : (decide (QF ≠ 0) && hasP K 1) with
      | true =>
        have HR : Hid (Z = QF) := by show _ = _; rw [HZ2.out]; rw [if_neg (by rw [HB0.out]; decide)]; rw [if_pos hB1]
        clear hB1
        go_wp2
        go_ret
        exact ⟨by rw [HR.out]; rfl, hg0⟩
      | false =>
        have HB1 : Hid ((decide (QF ≠ 0) && hasP K 1) = false) := hB1
        clear hB1
        go_wp2_with fail
        refine LC.out.mono ?_
        rintro e w1 ⟨rfl, hw⟩
        rw [hw]
        clear hw
        go_upto_region 10 with fail
        go_cut [43] (fun s wx => s = .bool (decide (LF ≠ 0) && hasP K 2) ∧ wx = W0)
        case first =>
          by_cases hz : LF = 0
          · have hzb : (LF != 0) = false := by simp [hz]
            have HR : Hid (false = (decide (LF ≠ 0) && hasP K 2)) := by show _ = _; simp [hz]
            clear hz
            go_wp2_with fail
            go_meet
            case rel => exact ⟨by rw [← HR.out], rfl⟩
          · have hzb : (LF != 0) = true := by simp [hz]
            have HR : Hid (hasP K 2 = (decide (LF ≠ 0) && hasP K 2)) := by show _ = _; simp [hz]
            clear hz
            go_wp2_with fail
            refine (H2.out _ (grown_refl _ _)).mono ?_
            rintro e w2 ⟨rfl, rfl⟩
            go_wp2_with fail
            go_meet
            case rel => exact ⟨by rw [← HR.out], rfl⟩
        case rest =>
        obtain ⟨rfl, hw⟩ := hcut
        rw [hw]
        clear hw
        cases hB2 : (decide (LF ≠ 0) && hasP K 2) with
        | true =>
          have HR : Hid (Z = LF) := by show _ = _; rw [HZ2.out]; rw [if_neg (by rw [HB0.out]; decide)]; rw [if_neg (by rw [HB1.out]; decide)]; rw [if_pos hB2]
          clear hB2
          go_wp2
          go_ret
          exact ⟨by rw [HR.out]; rfl, hg0⟩
        | false =>
          have HB2 : Hid ((decide (LF ≠ 0) && hasP K 2) = false) := hB2
          clear hB2
          have HZ3 : Hid (Z = if 32 < x then 1 else if badTo K n q l x 4 = true then 4 else 0) := by show _ = _; rw [HZ2.out, if_neg (by rw [HB0.out]; decide), if_neg (by rw [HB1.out]; decide), if_neg (by rw [HB2.out]; decide)]
          clear HZ2 HB0 HB1 HB2 NM KC LC IK
          by_cases h32 : 32 < x
          · have HR : Hid (Z = 1) := by show _ = _; rw [HZ3.out, if_pos h32]
            have i1 : (x : Int) > 32 := by omega
            go_wp2
            go_ret
            exact ⟨by rw [HR.out]; rfl, hg0⟩
          · have HZ4 : Hid (Z = if badTo K n q l x 4 = true then 4 else 0) := by show _ = _; rw [HZ3.out, if_neg h32]
            have i1 : ¬ (x : Int) > 32 := by omega
            clear HZ3
            go_wp2_with fail
            refine TX.out.mono ?_
            rintro e w2 ⟨rfl, hg2⟩
            clear h32 TX
            go_wp2_with fail
            go_loopw [51] (fun iv wr => ∃ m : Nat, m ≤ 4 ∧ iv = .int .i64 (m : Int) ∧ badTo K n q l x m = false ∧ W0.grownBy wr none) (fun iv _ => 4 - (intOf iv).toNat)
            case atStart => exact ⟨0, by omega, rfl, rfl, hg2⟩
            case round =>
              obtain ⟨m, hm, rfl, hbd, hg⟩ := hrel
              have HBD : Hid (badTo K n q l x m = false) := hbd
              have d0 := hg.cell c0 (by simp)
              have hgw := grown_trans hg0 hg
              have HH0 : Hid (Calls Tryd.prog 18 #[.int .i64 K, .int .u8 1] wr fun e w'' => e = .returned (.bool (hasP K 0)) ∧ w'' = wr) := H0.out _ hg
              have HH1 : Hid (Calls Tryd.prog 18 #[.int .i64 K, .int .u8 2] wr fun e w'' => e = .returned (.bool (hasP K 1)) ∧ w'' = wr) := H1.out _ hg
              have HH2 : Hid (Calls Tryd.prog 18 #[.int .i64 K, .int .u8 4] wr fun e w'' => e = .returned (.bool (hasP K 2)) ∧ w'' = wr) := H2.out _ hg
              clear hbd
              obtain ⟨ix0, ix1, ix2, ix3⟩ := index_texts n1 k1 l1 v1 n n2 q k2 l l2 x v2 wr
              have hm5 : m = 0 ∨ m = 1 ∨ m = 2 ∨ m = 3 ∨ m = 4 := by omega
              clear hm
              rcases hm5 with rfl | rfl | rfl | rfl | rfl
              · have HN : Hid (badTo K n q l x 1 = (badTo K n q l x 0 || (!hasP K 0 && decide (0 < n)))) := by show _ = _; simp [badTo]
                have HC : Hid (∀ w', W0.grownBy w' none → Calls Tryd.prog 18 #[.int .i64 K, .int .u8 1] w' fun e w'' => e = .returned (.bool (hasP K 0)) ∧ w'' = w') := H0.out
                cases hB : hasP K 0 with
                | true =>
                  rw [hB] at HC HN
                  have HF : Hid (badTo K n q l x 1 = false) := by show _ = _; rw [HN.out, HBD.out]; rfl
                  clear hB HN
                  go_upto_region 17 with fail
                  go_quiet (first | (go_at_call 18; exact Calls.quiet_of_same (HC.out _ (grown_drewN hg _))))
                  go_wp2_with fail
                  go_roundw
                  case rel => exact ⟨1, by omega, rfl, HF.out, grown_drewN hg _⟩
                  case measure => simp [intOf]
                | false =>
                  rw [hB] at HC HN
                  clear hB
                  by_cases hz : 0 < n
                  · have hz1 : (n : Int) > 0 := by omega
                    have hz2 : decide (0 < n) = true := decide_eq_true hz
                    have HF : Hid (badTo K n q l x 1 = true) := by show _ = _; rw [HN.out, HBD.out, hz2]; rfl
                    have HR : Hid (Z = 4) := by
                      have : badTo K n q l x 4 = true := by have := HF.out; simp [badTo] at this ⊢; simp [this]
                      show _ = _; rw [HZ4.out, if_pos this]
                    clear hz HN
                    go_upto_region 17 with fail
                    go_quiet (first | (go_at_call 18; exact Calls.quiet_of_same (HC.out _ (grown_drewN hg _))))
                    go_wp2
                    go_ret
                    exact ⟨by rw [HR.out]; rfl, grown_drewN hgw _⟩
                  · have hz1 : ¬ (n : Int) > 0 := by omega
                    have hz2 : decide (0 < n) = false := decide_eq_false hz
                    have HF : Hid (badTo K n q l x 1 = false) := by show _ = _; rw [HN.out, HBD.out, hz2]; rfl
                    clear hz HN
                    go_upto_region 17 with fail
                    go_quiet (first | (go_at_call 18; exact Calls.quiet_of_same (HC.out _ (grown_drewN hg _))))
                    go_wp2_with fail
                    go_roundw
                    case rel => exact ⟨1, by omega, rfl, HF.out, grown_drewN hg _⟩
                    case measure => simp [intOf]
              · have HN : Hid (badTo K n q l x 2 = (badTo K n q l x 1 || (!hasP K 1 && decide (0 < q)))) := by show _ = _; simp [badTo]
                have HC : Hid (∀ w', W0.grownBy w' none → Calls Tryd.prog 18 #[.int .i64 K, .int .u8 2] w' fun e w'' => e = .returned (.bool (hasP K 1)) ∧ w'' = w') := H1.out
                cases hB : hasP K 1 with
                | true =>
                  rw [hB] at HC HN
                  have HF : Hid (badTo K n q l x 2 = false) := by show _ = _; rw [HN.out, HBD.out]; rfl
                  clear hB HN
                  go_upto_region 17 with fail
                  go_quiet (first | (go_at_call 18; exact Calls.quiet_of_same (HC.out _ (grown_drewN hg _))))
                  go_wp2_with fail
                  go_roundw
                  case rel => exact ⟨2, by omega, rfl, HF.out, grown_drewN hg _⟩
                  case measure => simp [intOf]
                | false =>
                  rw [hB] at HC HN
                  clear hB
                  by_cases hz : 0 < q
                  · have hz1 : (q : Int) > 0 := by omega
                    have hz2 : decide (0 < q) = true := decide_eq_true hz
                    have HF : Hid (badTo K n q l x 2 = true) := by show _ = _; rw [HN.out, HBD.out, hz2]; rfl
                    have HR : Hid (Z = 4) := by
                      have : badTo K n q l x 4 = true := by have := HF.out; simp [badTo] at this ⊢; simp [this]
                      show _ = _; rw [HZ4.out, if_pos this]
                    clear hz HN
                    go_upto_region 17 with fail
                    go_quiet (first | (go_at_call 18; exact Calls.quiet_of_same (HC.out _ (grown_drewN hg _))))
                    go_wp2
                    go_ret
                    exact ⟨by rw [HR.out]; rfl, grown_drewN hgw _⟩
                  · have hz1 : ¬ (q : Int) > 0 := by omega
                    have hz2 : decide (0 < q) = false := decide_eq_false hz
                    have HF : Hid (badTo K n q l x 2 = false) := by show _ = _; rw [HN.out, HBD.out, hz2]; rfl
                    clear hz HN
                    go_upto_region 17 with fail
                    go_quiet (first | (go_at_call 18; exact Calls.quiet_of_same (HC.out _ (grown_drewN hg _))))
                    go_wp2_with fail
                    go_roundw
                    case rel => exact ⟨2, by omega, rfl, HF.out, grown_drewN hg _⟩
                    case measure => simp [intOf]
              · have HN : Hid (badTo K n q l x 3 = (badTo K n q l x 2 || (!hasP K 2 && decide (0 < l)))) := by show _ = _; simp [badTo]
                have HC : Hid (∀ w', W0.grownBy w' none → Calls Tryd.prog 18 #[.int .i64 K, .int .u8 4] w' fun e w'' => e = .returned (.bool (hasP K 2)) ∧ w'' = w') := H2.out
                cases hB : hasP K 2 with
                | true =>
                  rw [hB] at HC HN
                  have HF : Hid (badTo K n q l x 3 = false) := by show _ = _; rw [HN.out, HBD.out]; rfl
                  clear hB HN
                  go_upto_region 17 with fail
                  go_quiet (first | (go_at_call 18; exact Calls.quiet_of_same (HC.out _ (grown_drewN hg _))))
                  go_wp2_with fail
                  go_roundw
                  case rel => exact ⟨3, by omega, rfl, HF.out, grown_drewN hg _⟩
                  case measure => simp [intOf]
                | false =>
                  rw [hB] at HC HN
                  clear hB
                  by_cases hz : 0 < l
                  · have hz1 : (l : Int) > 0 := by omega
                    have hz2 : decide (0 < l) = true := decide_eq_true hz
                    have HF : Hid (badTo K n q l x 3 = true) := by show _ = _; rw [HN.out, HBD.out, hz2]; rfl
                    have HR : Hid (Z = 4) := by
                      have : badTo K n q l x 4 = true := by have := HF.out; simp [badTo] at this ⊢; simp [this]
                      show _ = _; rw [HZ4.out, if_pos this]
                    clear hz HN
                    go_upto_region 17 with fail
                    go_quiet (first | (go_at_call 18; exact Calls.quiet_of_same (HC.out _ (grown_drewN hg _))))
                    go_wp2
                    go_ret
                    exact ⟨by rw [HR.out]; rfl, grown_drewN hgw _⟩
                  · have hz1 : ¬ (l : Int) > 0 := by omega
                    have hz2 : decide (0 < l) = false := decide_eq_false hz
                    have HF : Hid (badTo K n q l x 3 = false) := by show _ = _; rw [HN.out, HBD.out, hz2]; rfl
                    clear hz HN
                    go_upto_region 17 with fail
                    go_quiet (first | (go_at_call 18; exact Calls.quiet_of_same (HC.out _ (grown_drewN hg _))))
                    go_wp2_with fail
                    go_roundw
                    case rel => exact ⟨3, by omega, rfl, HF.out, grown_drewN hg _⟩
                    case measure => simp [intOf]
              · have HN : Hid (badTo K n q l x 4 = (badTo K n q l x 3 || (!hasP K 3 && decide (0 < x)))) := by show _ = _; simp [badTo]
                have HC : Hid (∀ w', W0.grownBy w' none → Calls Tryd.prog 18 #[.int .i64 K, .int .u8 8] w' fun e w'' => e = .returned (.bool (hasP K 3)) ∧ w'' = w') := H3.out
                cases hB : hasP K 3 with
                | true =>
                  rw [hB] at HC HN
                  have HF : Hid (badTo K n q l x 4 = false) := by show _ = _; rw [HN.out, HBD.out]; rfl
                  clear hB HN
                  go_upto_region 17 with fail
                  go_quiet (first | (go_at_call 18; exact Calls.quiet_of_same (HC.out _ (grown_drewN hg _))))
                  go_wp2_with fail
                  go_roundw
                  case rel => exact ⟨4, by omega, rfl, HF.out, grown_drewN hg _⟩
                  case measure => simp [intOf]
                | false =>
                  rw [hB] at HC HN
                  clear hB
                  by_cases hz : 0 < x
                  · have hz1 : (x : Int) > 0 := by omega
                    have hz2 : decide (0 < x) = true := decide_eq_true hz
                    have HF : Hid (badTo K n q l x 4 = true) := by show _ = _; rw [HN.out, HBD.out, hz2]; rfl
                    have HR : Hid (Z = 4) := by
                      have : badTo K n q l x 4 = true := by have := HF.out; simp [badTo] at this ⊢; simp [this]
                      show _ = _; rw [HZ4.out, if_pos this]
                    clear hz HN
                    go_upto_region 17 with fail
                    go_quiet (first | (go_at_call 18; exact Calls.quiet_of_same (HC.out _ (grown_drewN hg _))))
                    go_wp2
                    go_ret
                    exact ⟨by rw [HR.out]; rfl, grown_drewN hgw _⟩
                  · have hz1 : ¬ (x : Int) > 0 := by omega
                    have hz2 : decide (0 < x) = false := decide_eq_false hz
                    have HF : Hid (badTo K n q l x 4 = false) := by show _ = _; rw [HN.out, HBD.out, hz2]; rfl
                    clear hz HN
                    go_upto_region 17 with fail
                    go_quiet (first | (go_at_call 18; exact Calls.quiet_of_same (HC.out _ (grown_drewN hg _))))
                    go_wp2_with fail
                    go_roundw
                    case rel => exact ⟨4, by omega, rfl, HF.out, grown_drewN hg _⟩
                    case measure => simp [intOf]
              · have HR : Hid (Z = 0) := by show _ = _; rw [HZ4.out, if_neg (by rw [HBD.out]; decide)]
                go_wp2
                go_ret
                exact ⟨by rw [HR.out]; rfl, hgw⟩
  · rw [decide_eq_false hk] at IK
    rw [ck_bad r hk]
    generalize r.kind = K at *
    clear hk hv hf
    go_enter Tryd.func14, Tryd.ntmps14
    go_upto_region 1 with fail
    rw [← HW0.out]
    go_wp2_with fail
    refine IK.out.mono ?_
    rintro e w1 ⟨rfl, hw⟩
    rw [hw]
    clear hw
    go_wp2
    go_ret
    exact ⟨rfl, hg0⟩
end Go.Proofs.YtghjikifflpeiabDoor
