/-
  Texts of this proof, joined: GrownP, BehP, HsFoldP.
-/
import Derived.Test.YtpmfbfflacbmjacPart5
import Derived.Test.YtpmfbfflacbmjacPart10
import Derived.Test.YtpmfbfflacbmjacTpCheckP
/-
  history.grown, as it landed: the forest behind one commit more.
-/
namespace Go.Proofs.Ytpmfbfflacbmjac
open Go.RowKit
theorem ret_two {x : Value} {a b : Int} (h : a = b) : Ending.returned (Value.tuple #[x, .int .i64 b]) = Ending.returned (Value.tuple #[x, .int .i64 a]) := by rw [h]
set_option maxRecDepth 100000 in
set_option maxHeartbeats 2000000 in
theorem grown_any (w : World) (v vc : Value) (f : FL) (c : Cmt) (t : Int) (hv : TensIs w v f) (hf : FitsT f) (hc : CommitIs w vc c) (hcf : FitsC c) :
    Calls Try.prog 54 #[v, vc, .int .i64 t] w fun e w' => ∃ x, e = .returned (.tuple #[x, .int .i64 (grownE f c t)]) ∧ OwnT 0 w' x (grownF f c t) ∧ w.grownBy w' none := by
  obtain ⟨a, cap, rfl⟩ := hc.agg
  obtain ⟨va, vcap, rfl⟩ := hv.shape
  obtain ⟨W0, HW0, hg0, B0⟩ := alloc_namedT w (.cells #[.int .i64 c.turn, .slice a c.writes.length cap] 55)
  obtain ⟨c0, c1, _, _⟩ := pair_room (grown_refl W0 none) B0.out
  have CK : Hid (Calls Try.prog 71 #[.agg #[.int .i64 c.turn, .slice a c.writes.length cap]] W0 fun e w' => e = .returned (.int .i64 (commitE c)) ∧ W0.grownBy w' none) := tpcheck_ok W0 _ c (hc.grown hg0) hcf
  have HV : Hid (TensIs W0 (.slice va f.length vcap) f) := hv.grown hg0
  have HW : Hid (WritesIs W0 (.slice a c.writes.length cap) c.writes) := hc.writes.2.grown hg0
  have AP : Hid (∀ w', W0.grownBy w' none → Calls Try.prog 21 #[.slice va f.length vcap, .slice a c.writes.length cap] w' fun e w'' => ∃ x, e = .returned (.tuple #[x, .int .i64 (appliedE f c.writes)]) ∧ OwnT w'.heap.size w'' x (appliedF f c.writes) ∧ w'.grownBy w'' none) := fun w' h => fapply_new w' _ _ f c.writes (HV.out.grown h) (HW.out.grown h) hf hcf.writes
  obtain ⟨z, hz⟩ : ∃ z, z = grownE f c t := ⟨_, rfl⟩
  obtain ⟨Z, hZ⟩ : ∃ Z, Z = grownF f c t := ⟨_, rfl⟩
  have HZ1 : Hid (commitE c ≠ 0 → z = commitE c ∧ Z = []) := fun h => by
    have : grownE f c t = commitE c := by rw [grownE, if_neg h]
    exact ⟨by rw [hz, this], by rw [hZ, grownF, if_neg (by rw [this]; exact h)]⟩
  have HZ2 : Hid (commitE c = 0 → c.turn ≠ t → z = 3 ∧ Z = []) := fun h h2 => by
    have : grownE f c t = 3 := by rw [grownE, if_pos h, if_neg h2]
    exact ⟨by rw [hz, this], by rw [hZ, grownF, if_neg (by rw [this]; omega)]⟩
  have HZ3 : Hid (commitE c = 0 → c.turn = t → z = appliedE f c.writes ∧ Z = appliedF f c.writes) := fun h h2 => by
    have : grownE f c t = appliedE f c.writes := by rw [grownE, if_pos h, if_pos h2]
    refine ⟨by rw [hz, this], ?_⟩
    rw [hZ, grownF, this]
    by_cases h3 : appliedE f c.writes = 0
    · rw [if_pos h3]
    · rw [if_neg h3, appliedF, if_neg h3]
  rw [← hz, ← hZ]
  clear hz hZ hc hv hf hcf HV HW
  generalize commitE c = y at *
  generalize c.turn = ct at *
  generalize appliedE f c.writes = AE at *
  generalize appliedF f c.writes = AF at *
  go_enter Try.func54, Try.ntmps54
  go_upto_region 1 with fail
  rw [← HW0.out]
  go_wp2_with fail
  refine CK.out.mono ?_
  rintro e w1 ⟨rfl, hg1⟩
  obtain ⟨d0, d1, _, _⟩ := pair_room hg1 B0.out
  by_cases hy : y = 0
  · subst hy
    by_cases ht : ct = t
    · subst ht
      have hE := HZ3.out rfl rfl
      have HE1 : Hid (z = AE) := hE.1
      have HE2 : Hid (Z = AF) := hE.2
      clear HZ1 HZ2 HZ3 hE
      go_wp2_with fail
      refine (AP.out _ hg1).mono ?_
      rintro e w2 ⟨x, rfl, ho, hg2⟩
      go_wp2
      go_ret2
      exact ⟨x, ret_two HE1.out, by rw [HE2.out]; exact ho.down 0 (Nat.zero_le _), grown_trans hg0 (grown_trans hg1 hg2)⟩
    · have hE := HZ2.out rfl ht
      have HE1 : Hid (z = 3) := hE.1
      have HE2 : Hid (Z = []) := hE.2
      clear HZ1 HZ2 HZ3 hE
      have ht' : (ct != t) = true := by simpa using ht
      clear ht
      go_wp2
      go_ret2
      exact ⟨_, ret_two HE1.out, by rw [HE2.out]; exact ownT_nil _ _, grown_trans hg0 hg1⟩
  · have hE := HZ1.out hy
    have HE1 : Hid (z = y) := hE.1
    have HE2 : Hid (Z = []) := hE.2
    clear HZ1 HZ2 HZ3 hE
    have hy' : (y != 0) = true := by simpa using hy
    clear hy
    go_wp2
    go_ret2
    exact ⟨_, ret_two HE1.out, by rw [HE2.out]; exact ownT_nil _ _, grown_trans hg0 hg1⟩
end Go.Proofs.Ytpmfbfflacbmjac

/-
  history.behind, as it landed: the forests behind any number of turns.
-/
namespace Go.Proofs.Ytpmfbfflacbmjac
open Go.RowKit
set_option maxRecDepth 100000 in
set_option maxHeartbeats 4000000 in
theorem behind_any (w : World) (v u : Value) (l : List Cmt) (ts : List Int) (hv : CommitsIs w v l) (hl : FitsCs l) (hu : IntsIs w u ts) (hn : ts.length ≤ 1000) :
    Calls Try.prog 28 #[v, u] w fun e w' => ∃ x, e = .returned (.tuple #[x, .int .i64 (behE l ts)]) ∧ (behE l ts = 0 → ForsIs w' x ts.length (fun k => foldT l (ts.getD k 0))) ∧ w.grownBy w' none := by
  obtain ⟨a, cap, rfl⟩ := hv.shape
  obtain ⟨ua, uc, rfl⟩ := hu.shape
  have hlen : l.length ≤ 140737488355328 := by have := hl.many; omega
  obtain ⟨z, hz⟩ : ∃ z, z = behE l ts := ⟨_, rfl⟩
  have HE : Hid (z = 0 → ∀ k, k < ts.length → behT l l.length (ts.getD k 0) = foldT l (ts.getD k 0)) := fun h k hk => behT_end (by rw [← hz]; exact h) k hk
  have HZ : Hid (z = if histE l = 0 then turnsE l.length ts else histE l) := hz
  obtain ⟨H, hH⟩ : ∃ H, H = histE l := ⟨_, rfl⟩
  rw [← hz]
  by_cases h3 : 300 < l.length
  · have HZ1 : Hid (z = 1) := by
      show _ = _
      have : histE l = 1 := by rw [histE, if_pos h3]
      rw [HZ.out, this, if_neg (by omega)]
    have i1 : (l.length : Int) > 300 := by omega
    clear hz hH HZ HE h3
    go_enter Try.func28, Try.ntmps28
    go_wp2
    go_ret2
    exact ⟨_, ret_two HZ1.out, fun h => absurd h (by rw [HZ1.out]; omega), grown_refl _ _⟩
  · have i1 : ¬ (l.length : Int) > 300 := by omega
    have HH : Hid (H = histFrom [] 0 l) := by show _ = _; rw [hH, histE, if_neg h3]
    rw [← hH] at HZ
    have hl3 : l.length ≤ 300 := by omega
    obtain ⟨W0, HW0, hg0, B0⟩ := alloc_namedT w (.cells (madeCells (Value.slice none 0 0).cells (ts.length * 1)) 35)
    have MK : (Instr.makeSlice 73 (.int .i64 (ts.length : Int)) (.int .i64 (ts.length : Int))).run Try.prog w = .ok (.slice (some ⟨w.heap.size, 0, none⟩) ts.length ts.length) W0 := by rw [HW0.out]; exact make_fors w ts.length (by omega)
    have R0 : Hid (ForRow W0 w.heap.size ts.length (fun k => behT l 0 (ts.getD k 0))) := by
      show ForRow _ _ _ _
      rw [HW0.out]; exact forRow_new w ts.length fun k _ => behT_zero l _
    obtain ⟨b0, hb0⟩ : ∃ b0, b0 = w.heap.size := ⟨_, rfl⟩
    have hbw : w.heap.size ≤ b0 := by omega
    rw [← hb0] at MK R0
    have HV : Hid (∀ w', w.grownBy w' none → CommitsIs w' (.slice a l.length cap) l) := fun w' h => hv.grown h
    have HU : Hid (∀ w', w.grownBy w' none → IntsIs w' (.slice ua ts.length uc) ts) := fun w' h => hu.grown h
    have HL : Hid (FitsCs l) := hl
    clear hz hH h3 hv hu hl B0 HW0 hb0
    go_enter Try.func28, Try.ntmps28
    go_wp2_with fail
    go_loopw [7, 23] (fun f i wr => ∃ m : Nat, m ≤ l.length ∧ i = .int .i64 (m : Int) ∧ OwnT 0 wr f (foldH [] (l.take m)) ∧ ForRow wr b0 ts.length (fun k => behT l m (ts.getD k 0)) ∧ H = histFrom (foldH [] (l.take m)) m (l.drop m) ∧ w.grownBy wr none) (fun _ i _ => l.length - (intOf i).toNat)
    case atStart => exact ⟨0, by omega, rfl, ownT_nil _ _, R0.out, HH.out, hg0⟩
    case round =>
      obtain ⟨m, hm, rfl, hf, hr, hh, hg⟩ := hrel
      by_cases hlt : m < l.length
      · have i2 : (m : Int) < (l.length : Int) := by omega
        obtain ⟨cb, co, rfl, hat⟩ := (HV.out wr hg).at m hlt
        obtain ⟨vs, e1, e2, hws⟩ := hat
        have hfit := HL.out.each m hlt
        have hst := grown_step l m hlt
        have hnx := grown_next l m hlt
        rw [show ((m + 1 : Nat) : Int) = (m : Int) + 1 by omega] at hst hnx
        rw [hst] at hh
        obtain ⟨fa, fc, rfl⟩ := hf.shape
        obtain ⟨wa, wc, rfl⟩ := hws.shape
        obtain ⟨W1, HW1, hg1, B1⟩ := alloc_namedT wr (.cells #[.int .i64 (l.getD m noCmt).turn, .slice wa (l.getD m noCmt).writes.length wc] 55)
        obtain ⟨q0, q1, _, _⟩ := pair_room (grown_refl W1 none) B1.out
        have GR : Hid (Calls Try.prog 54 #[.slice fa (foldH [] (l.take m)).length fc, .agg #[.int .i64 (l.getD m noCmt).turn, .slice wa (l.getD m noCmt).writes.length wc], .int .i64 ((m : Int) + 1)] W1 fun e w' => ∃ x, e = .returned (.tuple #[x, .int .i64 (grownE (foldH [] (l.take m)) (l.getD m noCmt) ((m : Int) + 1))]) ∧ OwnT 0 w' x (grownF (foldH [] (l.take m)) (l.getD m noCmt) ((m : Int) + 1)) ∧ W1.grownBy w' none) := grown_any W1 _ _ _ _ _ (hf.list.grown hg1) (foldH_forest _ _ forest_nil).fits ⟨_, rfl, hws.grown hg1⟩ hfit
        have HR : Hid (ForRow W1 b0 ts.length (fun k => behT l m (ts.getD k 0))) := hr.grown hg1
        have hgr1 := grown_trans hg hg1
        clear hst hws hfit hf hr
        generalize grownE (foldH [] (l.take m)) (l.getD m noCmt) ((m : Int) + 1) = y at *
        generalize grownF (foldH [] (l.take m)) (l.getD m noCmt) ((m : Int) + 1) = Y at *
        generalize (foldH [] (l.take m)).length = fl at *
        generalize (l.getD m noCmt).turn = ct at *
        generalize (l.getD m noCmt).writes.length = wl at *
        have HHM : Hid (H = if y = 0 then histFrom (foldH [] (l.take (m + 1))) (m + 1) (l.drop (m + 1)) else y) := hh
        have HNX : Hid (y = 0 → Y = foldH [] (l.take (m + 1))) := hnx
        clear hh hnx
        go_upto_region 8 with fail
        rw [← HW1.out]
        clear e1 e2
        go_wp2_with fail
        refine GR.out.mono ?_
        rintro e w2 ⟨x, rfl, ho, hg2⟩
        have hgw := grown_trans hgr1 hg2
        have HR2 : Hid (ForRow w2 b0 ts.length (fun k => behT l m (ts.getD k 0))) := HR.out.grown hg2
        clear q0 q1
        by_cases hy : y = 0
        · have HO : Hid (OwnT 0 w2 x (foldH [] (l.take (m + 1)))) := by show OwnT _ _ _ _; rw [← HNX.out hy]; exact ho
          have HH2 : Hid (H = histFrom (foldH [] (l.take (m + 1))) (m + 1) (l.drop (m + 1))) := by show _ = _; rw [HHM.out, if_pos hy]
          obtain ⟨xa, xc, rfl⟩ := ho.shape
          subst hy
          clear HHM HNX ho GR HR
          generalize Y.length = yl at *
          go_wp2_with fail
          go_loopw [41] (fun i wr2 => ∃ k : Nat, k ≤ ts.length ∧ i = .int .i64 (k : Int) ∧ OwnT 0 wr2 (.slice xa yl xc) (foldH [] (l.take (m + 1))) ∧ ForRow wr2 b0 ts.length (fun j => if j < k then behT l (m + 1) (ts.getD j 0) else behT l m (ts.getD j 0)) ∧ w.grownBy wr2 none) (fun i _ => ts.length - (intOf i).toNat)
          case atStart => exact ⟨0, by omega, rfl, HO.out, HR2.out.congr fun k _ => (if_neg (by omega)).symm, hgw⟩
          case round =>
            obtain ⟨k, hk, rfl, ho, hr, hg3⟩ := hrel
            by_cases hkl : k < ts.length
            · have i3 : (k : Int) < (ts.length : Int) := by omega
              obtain ⟨ub, uo, rfl, u0, _, _⟩ := (HU.out _ hg3).at k hkl
              obtain ⟨old, o1, o2, _⟩ := hr.cell hkl
              by_cases ht : ts.getD k 0 = (m : Int) + 1
              · have HT : Hid (ts.getD k 0 = (m : Int) + 1) := ht
                rw [ht] at u0
                have NR := hr.set hkl ho
                have NO := ho.setRow (i := k) hr (.slice xa yl xc)
                have NG := grown_setNew hg3 b0 hbw k (.slice xa yl xc)
                have HNR : Hid (ForRow (wr.setCell ⟨b0, k, none⟩ (.slice xa yl xc)) b0 ts.length (fun j => if j < k + 1 then behT l (m + 1) (ts.getD j 0) else behT l m (ts.getD j 0))) := NR.congr fun j _ => by
                  by_cases e : j = k
                  · subst e
                    show (if j = j then _ else _) = _
                    rw [if_pos rfl, if_pos (by omega), behT_next l m _ (by rw [HT.out]; omega)]
                  · show (if j = k then _ else if j < k then _ else _) = _
                    rw [if_neg e]
                    by_cases e2 : j < k
                    · rw [if_pos e2, if_pos (by omega)]
                    · rw [if_neg e2, if_neg (by omega)]
                clear ht NR hr ho
                go_wp2_with fail
                go_roundw
                case rel => exact ⟨k + 1, by omega, by go_num, NO, HNR.out, NG⟩
                case measure => simp [intOf]; omega
              · have HNR : Hid (ForRow wr b0 ts.length (fun j => if j < k + 1 then behT l (m + 1) (ts.getD j 0) else behT l m (ts.getD j 0))) := hr.congr fun j _ => by
                  show (if j < k then _ else _) = _
                  by_cases e2 : j < k
                  · rw [if_pos e2, if_pos (by omega)]
                  · rw [if_neg e2]
                    by_cases e : j = k
                    · subst e
                      rw [if_pos (by omega), behT_same l m _ (by rw [show ((m + 1 : Nat) : Int) = (m : Int) + 1 by omega]; exact ht)]
                    · rw [if_neg (by omega)]
                have ht' : (ts.getD k 0 == (m : Int) + 1) = false := by simpa using ht
                clear ht hr
                generalize ts.getD k 0 = tk at *
                go_wp2_with fail
                go_roundw
                case rel => exact ⟨k + 1, by omega, by go_num, ho, HNR.out, hg3⟩
                case measure => simp [intOf]; omega
            · obtain rfl : k = ts.length := by omega
              have i3 : ¬ (ts.length : Int) < (ts.length : Int) := by omega
              have HNR : Hid (ForRow wr b0 ts.length (fun j => behT l (m + 1) (ts.getD j 0))) := hr.congr fun j hj => by
                show (if j < ts.length then _ else _) = _
                rw [if_pos hj]
              clear hr
              go_wp2_with fail
              go_roundw
              case rel => exact ⟨m + 1, by omega, by go_num, ho, HNR.out, HH2.out, hg3⟩
              case measure => simp [intOf]; omega
        · have hy' : (y != 0) = true := by simpa using hy
          have HZ2 : Hid (z = y) := by
            show _ = _
            have : H = y := by rw [HHM.out, if_neg hy]
            rw [HZ.out, this, if_neg hy]
          have HY : Hid (y ≠ 0) := hy
          clear hy ho
          go_wp2
          go_ret2
          exact ⟨_, ret_two HZ2.out, fun h => absurd h (by rw [HZ2.out]; exact HY.out), hgw⟩
      · obtain rfl : m = l.length := by omega
        have i2 : ¬ (l.length : Int) < (l.length : Int) := by omega
        have HZ2 : Hid (z = turnsE l.length ts) := by
          show _ = _
          have : H = 0 := by rw [hh]; exact hist_end l
          rw [HZ.out, if_pos this]
        have HR : Hid (ForRow wr b0 ts.length (fun k => behT l l.length (ts.getD k 0))) := hr
        obtain ⟨fa, fc, rfl⟩ := hf.shape
        clear hh hr hf
        generalize (foldH [] (l.take l.length)).length = fl at *
        go_wp2_with fail
        go_loopw [58] (fun i wr2 => ∃ k : Nat, k ≤ ts.length ∧ i = .int .i64 (k : Int) ∧ z = turnsE l.length (ts.drop k) ∧ wr2 = wr) (fun i _ => ts.length - (intOf i).toNat)
        case atStart => exact ⟨0, by omega, rfl, HZ2.out, rfl⟩
        case round =>
          obtain ⟨k, hk, rfl, hzk, rfl⟩ := hrel
          by_cases hkl : k < ts.length
          · have i3 : (k : Int) < (ts.length : Int) := by omega
            obtain ⟨ub, uo, rfl, u0, _, _⟩ := (HU.out _ hg).at k hkl
            rw [turns_step _ _ _ hkl] at hzk
            have HZK : Hid (z = if 0 ≤ ts.getD k 0 ∧ ts.getD k 0 ≤ (l.length : Int) then turnsE l.length (ts.drop (k + 1)) else 2) := hzk
            generalize ts.getD k 0 = tk at *
            clear hzk
            by_cases t0 : tk < 0
            · have HZ3 : Hid (z = 2) := by show _ = _; rw [HZK.out, if_neg (by omega)]
              clear HZK
              go_wp2
              go_ret2
              exact ⟨_, ret_two HZ3.out, fun h => absurd h (by rw [HZ3.out]; omega), hg⟩
            · by_cases t1 : tk > (l.length : Int)
              · have HZ3 : Hid (z = 2) := by show _ = _; rw [HZK.out, if_neg (by omega)]
                clear HZK
                go_wp2
                go_ret2
                exact ⟨_, ret_two HZ3.out, fun h => absurd h (by rw [HZ3.out]; omega), hg⟩
              · have HZ3 : Hid (z = turnsE l.length (ts.drop (k + 1))) := by show _ = _; rw [HZK.out, if_pos (by omega)]
                clear HZK
                go_wp2_with fail
                go_roundw
                case rel => exact ⟨k + 1, by omega, by go_num, HZ3.out, by first | rfl | trivial⟩
                case measure => simp [intOf]; omega
          · obtain rfl : k = ts.length := by omega
            have i3 : ¬ (ts.length : Int) < (ts.length : Int) := by omega
            have HZ3 : Hid (z = 0) := by show _ = _; rw [hzk]; exact turns_end _ _
            clear hzk
            go_wp2
            go_ret2
            exact ⟨_, ret_two HZ3.out, fun h => ⟨b0, rfl, fun j hj => by
              obtain ⟨v0, h1, _, h2⟩ := HR.out.cell hj
              refine ⟨v0, h1, ?_⟩
              have := h2.list
              rw [HE.out h j hj] at this
              exact this⟩, hg⟩
end Go.Proofs.Ytpmfbfflacbmjac

/-
  history.Fold, as it landed, keeps P7.2.
-/
namespace Go.Proofs.Ytpmfbfflacbmjac
open Go.RowKit
theorem ints_one (w : World) (t : Int) (h0 : -9223372036854775808 ≤ t) (h1 : t ≤ 9223372036854775807) (ty : TypeId) : IntsIs (w.alloc (.cells #[.int .i64 t] ty)) (.slice (some ⟨w.heap.size, 0, none⟩) 1 1) [t] := by
  refine ⟨_, 1, rfl, Nat.le_refl _, .inr ⟨_, 0, rfl, fun i hi => ?_⟩⟩
  match i, hi with
  | 0, _ => exact ⟨by simp, h0, h1⟩
set_option maxRecDepth 100000 in
set_option maxHeartbeats 2000000 in
theorem hsfold_ok : HsFoldOK := by
  intro w v l t hv hl ht0 ht1
  obtain ⟨a, cap, rfl⟩ := hv.shape
  obtain ⟨W0, HW0, hg0, _⟩ := alloc_namedT w (.cells #[.int .i64 t] 3)
  have BE : Hid (Calls Try.prog 28 #[.slice a l.length cap, .slice (some ⟨w.heap.size, 0, none⟩) 1 1] W0 fun e w' => ∃ x, e = .returned (.tuple #[x, .int .i64 (foldE l t)]) ∧ (foldE l t = 0 → ∃ b u, x = .slice (some ⟨b, 0, none⟩) 1 1 ∧ w'.cell? ⟨b, 0, none⟩ = some u ∧ TensIs w' u (foldT l t)) ∧ W0.grownBy w' none) := by
    have h := behind_any W0 _ (.slice (some ⟨w.heap.size, 0, none⟩) 1 1) l [t] (hv.grown hg0) hl (by rw [HW0.out]; exact ints_one w t ht0 ht1 _) (by simp)
    rw [behE_one] at h
    refine h.mono ?_
    rintro e w' ⟨x, rfl, h2, hg⟩
    refine ⟨x, rfl, fun h0 => ?_, hg⟩
    obtain ⟨b, rfl, h3⟩ := h2 h0
    obtain ⟨u, h4, h5⟩ := h3 0 (by simp)
    exact ⟨b, u, rfl, h4, h5⟩
  have HN : Hid (foldE l t ≠ 0 → foldT l t = []) := fun h => by rw [foldT, if_neg h]
  generalize foldE l t = z at *
  generalize foldT l t = Z at *
  clear hv hl
  go_enter Try.func10, Try.ntmps10
  go_wp2_with fail
  rw [← HW0.out]
  refine BE.out.mono ?_
  rintro e w1 ⟨x, rfl, hx, hg1⟩
  by_cases hz : z = 0
  · obtain ⟨b, u, rfl, c0, hu⟩ := hx hz
    subst hz
    obtain ⟨ua, uc, rfl⟩ := hu.shape
    have HU : Hid (TensIs w1 (.slice ua Z.length uc) Z) := hu
    clear hu hx
    go_wp2
    go_ret2
    exact ⟨_, rfl, HU.out, grown_trans hg0 hg1⟩
  · have hz' : (z != 0) = true := by simpa using hz
    have HZ : Hid (Z = []) := HN.out hz
    clear hz hx
    go_wp2
    go_ret2
    exact ⟨_, rfl, by rw [HZ.out]; exact tensIs_nil _, grown_trans hg0 hg1⟩
end Go.Proofs.Ytpmfbfflacbmjac
