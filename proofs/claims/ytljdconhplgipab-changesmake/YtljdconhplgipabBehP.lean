/-
  history.behind, as it landed: the forests behind any number of turns.
-/
import Derived.Test.YtljdconhplgipabGrownP
import Derived.Test.YtljdconhplgipabPart2
namespace Go.Proofs.Ytljdconhplgipab
open Go.RowKit
set_option maxRecDepth 100000 in
set_option maxHeartbeats 4000000 in
theorem behind_any (w : World) (v u : Value) (l : List Cmt) (ts : List Int) (hv : CommitsIs w v l) (hl : FitsCs l) (hu : IntsIs w u ts) (hn : ts.length ≤ 1000) :
    Calls Try.prog 16 #[v, u] w fun e w' => ∃ x, e = .returned (.tuple #[x, .int .i64 (behE l ts)]) ∧ (behE l ts = 0 → ForsIs w' x ts.length (fun k => foldT l (ts.getD k 0))) ∧ w.grownBy w' none := by
  obtain ⟨a, cap, rfl⟩ := hv.shape
  obtain ⟨ua, uc, rfl⟩ := hu.shape
  have hlen : l.length ≤ 140737488355328 := by have := hl.many; omega
  obtain ⟨z, hz⟩ : ∃ z, z = behE l ts := ⟨_, rfl⟩
  have HE : Hid (z = 0 → ∀ k, k < ts.length → behT l l.length (ts.getD k 0) = foldT l (ts.getD k 0)) := fun h k hk => behT_end (by rw [← hz]; exact h) k hk
  have HZ : Hid (z = if histE l = 0 then turnsE l.length ts else histE l) := hz
  obtain ⟨H, hH⟩ : ∃ H, H = histE l := ⟨_, rfl⟩
  rw [← hz]
  by_cases h3 : 300 < l.length
  · have HZ1 : Hid (z = 1) := by
      show _ = _
      have : histE l = 1 := by rw [histE, if_pos h3]
      rw [HZ.out, this, if_neg (by omega)]
    have i1 : (l.length : Int) > 300 := by omega
    clear hz hH HZ HE h3
    go_enter Try.func16, Try.ntmps16
    go_wp2
    go_ret2
    exact ⟨_, ret_two HZ1.out, fun h => absurd h (by rw [HZ1.out]; omega), grown_refl _ _⟩
  · have i1 : ¬ (l.length : Int) > 300 := by omega
    have HH : Hid (H = histFrom [] 0 l) := by show _ = _; rw [hH, histE, if_neg h3]
    rw [← hH] at HZ
    have hl3 : l.length ≤ 300 := by omega
    obtain ⟨W0, HW0, hg0, B0⟩ := alloc_namedT w (.cells (madeCells (Value.slice none 0 0).cells (ts.length * 1)) 30)
    have MK : (Instr.makeSlice 49 (.int .i64 (ts.length : Int)) (.int .i64 (ts.length : Int))).run Try.prog w = .ok (.slice (some ⟨w.heap.size, 0, none⟩) ts.length ts.length) W0 := by rw [HW0.out]; exact make_fors w ts.length (by omega)
    have R0 : Hid (ForRow W0 w.heap.size ts.length (fun k => behT l 0 (ts.getD k 0))) := by
      show ForRow _ _ _ _
      rw [HW0.out]; exact forRow_new w ts.length fun k _ => behT_zero l _
    obtain ⟨b0, hb0⟩ : ∃ b0, b0 = w.heap.size := ⟨_, rfl⟩
    have hbw : w.heap.size ≤ b0 := by omega
    rw [← hb0] at MK R0
    have HV : Hid (∀ w', w.grownBy w' none → CommitsIs w' (.slice a l.length cap) l) := fun w' h => hv.grown h
    have HU : Hid (∀ w', w.grownBy w' none → IntsIs w' (.slice ua ts.length uc) ts) := fun w' h => hu.grown h
    have HL : Hid (FitsCs l) := hl
    clear hz hH h3 hv hu hl B0 HW0 hb0
    go_enter Try.func16, Try.ntmps16
    go_wp2_with fail
    go_loopw [7, 23] (fun f i wr => ∃ m : Nat, m ≤ l.length ∧ i = .int .i64 (m : Int) ∧ OwnT 0 wr f (foldH [] (l.take m)) ∧ ForRow wr b0 ts.length (fun k => behT l m (ts.getD k 0)) ∧ H = histFrom (foldH [] (l.take m)) m (l.drop m) ∧ w.grownBy wr none) (fun _ i _ => l.length - (intOf i).toNat)
    case atStart => exact ⟨0, by omega, rfl, ownT_nil _ _, R0.out, HH.out, hg0⟩
    case round =>
      obtain ⟨m, hm, rfl, hf, hr, hh, hg⟩ := hrel
      by_cases hlt : m < l.length
      · have i2 : (m : Int) < (l.length : Int) := by omega
        obtain ⟨cb, co, rfl, hat⟩ := (HV.out wr hg).at m hlt
        obtain ⟨vs, e1, e2, hws⟩ := hat
        have hfit := HL.out.each m hlt
        have hst := grown_step l m hlt
        have hnx := grown_next l m hlt
        rw [show ((m + 1 : Nat) : Int) = (m : Int) + 1 by omega] at hst hnx
        rw [hst] at hh
        obtain ⟨fa, fc, rfl⟩ := hf.shape
        obtain ⟨wa, wc, rfl⟩ := hws.shape
        obtain ⟨W1, HW1, hg1, B1⟩ := alloc_namedT wr (.cells #[.int .i64 (l.getD m noCmt).turn, .slice wa (l.getD m noCmt).writes.length wc] 48)
        obtain ⟨q0, q1, _, _⟩ := pair_room (grown_refl W1 none) B1.out
        have GR : Hid (Calls Try.prog 26 #[.slice fa (foldH [] (l.take m)).length fc, .agg #[.int .i64 (l.getD m noCmt).turn, .slice wa (l.getD m noCmt).writes.length wc], .int .i64 ((m : Int) + 1)] W1 fun e w' => ∃ x, e = .returned (.tuple #[x, .int .i64 (grownE (foldH [] (l.take m)) (l.getD m noCmt) ((m : Int) + 1))]) ∧ OwnT 0 w' x (grownF (foldH [] (l.take m)) (l.getD m noCmt) ((m : Int) + 1)) ∧ W1.grownBy w' none) := grown_any W1 _ _ _ _ _ (hf.list.grown hg1) (foldH_forest _ _ forest_nil).fits ⟨_, rfl, hws.grown hg1⟩ hfit
        have HR : Hid (ForRow W1 b0 ts.length (fun k => behT l m (ts.getD k 0))) := hr.grown hg1
        have hgr1 := grown_trans hg hg1
        clear hst hws hfit hf hr
        generalize grownE (foldH [] (l.take m)) (l.getD m noCmt) ((m : Int) + 1) = y at *
        generalize grownF (foldH [] (l.take m)) (l.getD m noCmt) ((m : Int) + 1) = Y at *
        generalize (foldH [] (l.take m)).length = fl at *
        generalize (l.getD m noCmt).turn = ct at *
        generalize (l.getD m noCmt).writes.length = wl at *
        have HHM : Hid (H = if y = 0 then histFrom (foldH [] (l.take (m + 1))) (m + 1) (l.drop (m + 1)) else y) := hh
        have HNX : Hid (y = 0 → Y = foldH [] (l.take (m + 1))) := hnx
        clear hh hnx
        go_upto_region 8 with fail
        rw [← HW1.out]
        clear e1 e2
        go_wp2_with fail
        refine GR.out.mono ?_
        rintro e w2 ⟨x, rfl, ho, hg2⟩
        have hgw := grown_trans hgr1 hg2
        have HR2 : Hid (ForRow w2 b0 ts.length (fun k => behT l m (ts.getD k 0))) := HR.out.grown hg2
        clear q0 q1
        by_cases hy : y = 0
        · have HO : Hid (OwnT 0 w2 x (foldH [] (l.take (m + 1)))) := by show OwnT _ _ _ _; rw [← HNX.out hy]; exact ho
          have HH2 : Hid (H = histFrom (foldH [] (l.take (m + 1))) (m + 1) (l.drop (m + 1))) := by show _ = _; rw [HHM.out, if_pos hy]
          obtain ⟨xa, xc, rfl⟩ := ho.shape
          subst hy
          clear HHM HNX ho GR HR
          generalize Y.length = yl at *
          go_wp2_with fail
          go_loopw [41] (fun i wr2 => ∃ k : Nat, k ≤ ts.length ∧ i = .int .i64 (k : Int) ∧ OwnT 0 wr2 (.slice xa yl xc) (foldH [] (l.take (m + 1))) ∧ ForRow wr2 b0 ts.length (fun j => if j < k then behT l (m + 1) (ts.getD j 0) else behT l m (ts.getD j 0)) ∧ w.grownBy wr2 none) (fun i _ => ts.length - (intOf i).toNat)
          case atStart => exact ⟨0, by omega, rfl, HO.out, HR2.out.congr fun k _ => (if_neg (by omega)).symm, hgw⟩
          case round =>
            obtain ⟨k, hk, rfl, ho, hr, hg3⟩ := hrel
            by_cases hkl : k < ts.length
            · have i3 : (k : Int) < (ts.length : Int) := by omega
              obtain ⟨ub, uo, rfl, u0, _, _⟩ := (HU.out _ hg3).at k hkl
              obtain ⟨old, o1, o2, _⟩ := hr.cell hkl
              by_cases ht : ts.getD k 0 = (m : Int) + 1
              · have HT : Hid (ts.getD k 0 = (m : Int) + 1) := ht
                rw [ht] at u0
                have NR := hr.set hkl ho
                have NO := ho.setRow (i := k) hr (.slice xa yl xc)
                have NG := grown_setNew hg3 b0 hbw k (.slice xa yl xc)
                have HNR : Hid (ForRow (wr.setCell ⟨b0, k, none⟩ (.slice xa yl xc)) b0 ts.length (fun j => if j < k + 1 then behT l (m + 1) (ts.getD j 0) else behT l m (ts.getD j 0))) := NR.congr fun j _ => by
                  by_cases e : j = k
                  · subst e
                    show (if j = j then _ else _) = _
                    rw [if_pos rfl, if_pos (by omega), behT_next l m _ (by rw [HT.out]; omega)]
                  · show (if j = k then _ else if j < k then _ else _) = _
                    rw [if_neg e]
                    by_cases e2 : j < k
                    · rw [if_pos e2, if_pos (by omega)]
                    · rw [if_neg e2, if_neg (by omega)]
                clear ht NR hr ho
                go_wp2_with fail
                go_roundw
                case rel => exact ⟨k + 1, by omega, by go_num, NO, HNR.out, NG⟩
                case measure => simp [intOf]; omega
              · have HNR : Hid (ForRow wr b0 ts.length (fun j => if j < k + 1 then behT l (m + 1) (ts.getD j 0) else behT l m (ts.getD j 0))) := hr.congr fun j _ => by
                  show (if j < k then _ else _) = _
                  by_cases e2 : j < k
                  · rw [if_pos e2, if_pos (by omega)]
                  · rw [if_neg e2]
                    by_cases e : j = k
                    · subst e
                      rw [if_pos (by omega), behT_same l m _ (by rw [show ((m + 1 : Nat) : Int) = (m : Int) + 1 by omega]; exact ht)]
                    · rw [if_neg (by omega)]
                have ht' : (ts.getD k 0 == (m : Int) + 1) = false := by simpa using ht
                clear ht hr
                generalize ts.getD k 0 = tk at *
                go_wp2_with fail
                go_roundw
                case rel => exact ⟨k + 1, by omega, by go_num, ho, HNR.out, hg3⟩
                case measure => simp [intOf]; omega
            · obtain rfl : k = ts.length := by omega
              have i3 : ¬ (ts.length : Int) < (ts.length : Int) := by omega
              have HNR : Hid (ForRow wr b0 ts.length (fun j => behT l (m + 1) (ts.getD j 0))) := hr.congr fun j hj => by
                show (if j < ts.length then _ else _) = _
                rw [if_pos hj]
              clear hr
              go_wp2_with fail
              go_roundw
              case rel => exact ⟨m + 1, by omega, by go_num, ho, HNR.out, HH2.out, hg3⟩
              case measure => simp [intOf]; omega
        · have hy' : (y != 0) = true := by simpa using hy
          have HZ2 : Hid (z = y) := by
            show _ = _
            have : H = y := by rw [HHM.out, if_neg hy]
            rw [HZ.out, this, if_neg hy]
          have HY : Hid (y ≠ 0) := hy
          clear hy ho
          go_wp2
          go_ret2
          exact ⟨_, ret_two HZ2.out, fun h => absurd h (by rw [HZ2.out]; exact HY.out), hgw⟩
      · obtain rfl : m = l.length := by omega
        have i2 : ¬ (l.length : Int) < (l.length : Int) := by omega
        have HZ2 : Hid (z = turnsE l.length ts) := by
          show _ = _
          have : H = 0 := by rw [hh]; exact hist_end l
          rw [HZ.out, if_pos this]
        have HR : Hid (ForRow wr b0 ts.length (fun k => behT l l.length (ts.getD k 0))) := hr
        obtain ⟨fa, fc, rfl⟩ := hf.shape
        clear hh hr hf
        generalize (foldH [] (l.take l.length)).length = fl at *
        go_wp2_with fail
        go_loopw [58] (fun i wr2 => ∃ k : Nat, k ≤ ts.length ∧ i = .int .i64 (k : Int) ∧ z = turnsE l.length (ts.drop k) ∧ wr2 = wr) (fun i _ => ts.length - (intOf i).toNat)
        case atStart => exact ⟨0, by omega, rfl, HZ2.out, rfl⟩
        case round =>
          obtain ⟨k, hk, rfl, hzk, rfl⟩ := hrel
          by_cases hkl : k < ts.length
          · have i3 : (k : Int) < (ts.length : Int) := by omega
            obtain ⟨ub, uo, rfl, u0, _, _⟩ := (HU.out _ hg).at k hkl
            rw [turns_step _ _ _ hkl] at hzk
            have HZK : Hid (z = if 0 ≤ ts.getD k 0 ∧ ts.getD k 0 ≤ (l.length : Int) then turnsE l.length (ts.drop (k + 1)) else 2) := hzk
            generalize ts.getD k 0 = tk at *
            clear hzk
            by_cases t0 : tk < 0
            · have HZ3 : Hid (z = 2) := by show _ = _; rw [HZK.out, if_neg (by omega)]
              clear HZK
              go_wp2
              go_ret2
              exact ⟨_, ret_two HZ3.out, fun h => absurd h (by rw [HZ3.out]; omega), hg⟩
            · by_cases t1 : tk > (l.length : Int)
              · have HZ3 : Hid (z = 2) := by show _ = _; rw [HZK.out, if_neg (by omega)]
                clear HZK
                go_wp2
                go_ret2
                exact ⟨_, ret_two HZ3.out, fun h => absurd h (by rw [HZ3.out]; omega), hg⟩
              · have HZ3 : Hid (z = turnsE l.length (ts.drop (k + 1))) := by show _ = _; rw [HZK.out, if_pos (by omega)]
                clear HZK
                go_wp2_with fail
                go_roundw
                case rel => exact ⟨k + 1, by omega, by go_num, HZ3.out, by first | rfl | trivial⟩
                case measure => simp [intOf]; omega
          · obtain rfl : k = ts.length := by omega
            have i3 : ¬ (ts.length : Int) < (ts.length : Int) := by omega
            have HZ3 : Hid (z = 0) := by show _ = _; rw [hzk]; exact turns_end _ _
            clear hzk
            go_wp2
            go_ret2
            exact ⟨_, ret_two HZ3.out, fun h => ⟨b0, rfl, fun j hj => by
              obtain ⟨v0, h1, _, h2⟩ := HR.out.cell hj
              refine ⟨v0, h1, ?_⟩
              have := h2.list
              rw [HE.out h j hj] at this
              exact this⟩, hg⟩
end Go.Proofs.Ytljdconhplgipab
