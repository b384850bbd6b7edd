/-
  Texts of this proof, joined: RCmtF, RHist.
-/
import Derived.Test.YtljdconhplgipaaGreatPart4
import Derived.Test.YtljdconhplgipaaGreatRKeyF
import Derived.Test.YtljdconhplgipaaGreatPart21
/-
  The document's answer: CommitFault.
-/
namespace Go.Proofs.YtljdconhplgipaaGreat
open Go.RowKit
theorem alloc_named4 (w : World) (o : Obj) : ∃ W : World, Hid (W = w.alloc o) ∧ w.grownBy W none ∧ Hid (W.heap[w.heap.size]? = some o) := ⟨w.alloc o, rfl, World.grownBy_alloc _ _ _, heap_alloc_new w o⟩
theorem ret_int {z y : Int} (h : z = y) : Ending.returned (.int .i64 y) = .returned (.int .i64 z) := by rw [h]
theorem ret_bool {z y : Bool} (h : z = y) : Ending.returned (.bool y) = .returned (.bool z) := by rw [h]
set_option maxRecDepth 100000 in
theorem commitFault_any (w : World) (v : Value) (c : Cmt) (hv : CommitIs w v c) (hl : FitsW c.writes) :
    Calls Tryz.prog 50 #[v] w fun e w' => e = .returned (.int .i64 (commitE c)) ∧ w.grownBy w' none := by
  obtain ⟨a, cap, rfl⟩ := hv.agg
  obtain ⟨W0, HW0, hg0, B0⟩ := alloc_named4 w (.cells #[.int .i64 c.turn, .slice a c.writes.length cap] 32)
  obtain ⟨c0, c1, _, _⟩ := pair_room (grown_refl W0 none) B0.out
  have IN : Hid (Calls Tryz.prog 33 #[.int .i64 c.turn, .int .i64 1, .int .i64 1048576] W0 fun e w' => e = .returned (.bool (decide (1 ≤ c.turn ∧ c.turn ≤ 1048576))) ∧ w' = W0) := in_any _ _ _ _
  have HW : Hid (WritesIs W0 (.slice a c.writes.length cap) c.writes) := hv.writes.2.grown hg0
  have hlen := hl.len
  obtain ⟨z, hz⟩ : ∃ z, z = commitE c := ⟨_, rfl⟩
  have HZ : Hid (z = if 1 ≤ c.turn ∧ c.turn ≤ 1048576 then (if c.writes.length = 0 then 1 else wfE 0 c.writes) else 2) := hz
  rw [← hz]
  clear hz hv hl
  by_cases ht : 1 ≤ c.turn ∧ c.turn ≤ 1048576
  · rw [decide_eq_true ht] at IN
    by_cases hn : c.writes.length = 0
    · have HZ2 : Hid (z = 1) := by show _ = _; rw [HZ.out, if_pos ht, if_pos hn]
      have i0 : ((c.writes.length : Int) == 0) = true := by simp; simpa using hn
      clear ht hn
      go_enter Tryz.func50, Tryz.ntmps50
      go_upto_region 1 with fail
      rw [← HW0.out]
      go_wp2_with fail
      refine IN.out.mono ?_
      rintro e w' ⟨rfl, rfl⟩
      go_wp2
      go_ret
      exact ⟨ret_int HZ2.out, hg0⟩
    · have HZ2 : Hid (z = wfE 0 c.writes) := by show _ = _; rw [HZ.out, if_pos ht, if_neg hn]
      have i0 : ((c.writes.length : Int) == 0) = false := by simp; simpa using hn
      clear ht hn HZ
      go_enter Tryz.func50, Tryz.ntmps50
      go_upto_region 1 with fail
      rw [← HW0.out]
      go_wp2_with fail
      refine IN.out.mono ?_
      rintro e w' ⟨rfl, rfl⟩
      go_wp2_with fail
      go_loopw [3] (fun i wr => ∃ m : Nat, m ≤ c.writes.length ∧ i = .int .i64 (m : Int) ∧ z = wfE m (c.writes.drop m) ∧ w'.grownBy wr none) (fun i _ => c.writes.length - (intOf i).toNat)
      case atStart => exact ⟨0, by omega, rfl, HZ2.out, grown_refl _ _⟩
      case round =>
        obtain ⟨m, hm, rfl, hzm, hg⟩ := hrel
        have d0 := hg.cell c0 (by simp)
        have d1 := hg.cell c1 (by simp)
        by_cases hlt : m < c.writes.length
        · have i1 : (m : Int) < (c.writes.length : Int) := by omega
          obtain ⟨b, o, rfl, hat⟩ := HW.out.at m hlt
          obtain ⟨vn, vk, vv, e1, e2, e3, e4, s1, s2, s3⟩ := hat.grown hg
          have WF : Hid (Calls Tryz.prog 72 #[.agg #[vn, vk, .bool (c.writes.getD m noPlc).gone, vv]] wr fun e w' => e = .returned (.int .i64 (writeE (c.writes.getD m noPlc))) ∧ wr.grownBy w' none) := writeFault_any wr _ _ ⟨vn, vk, vv, rfl, s1, s2, s3⟩
          have hst := wfE_drop c.writes m hlt
          rw [hst] at hzm
          have HZM : Hid (z = if (if 10 ≤ m then (1 : Int) else writeE (c.writes.getD m noPlc)) = 0 then wfE (m + 1) (c.writes.drop (m + 1)) else (if 10 ≤ m then (1 : Int) else writeE (c.writes.getD m noPlc))) := hzm
          obtain ⟨na, nc, rfl⟩ := s1.shape
          obtain ⟨ka, kc, rfl⟩ := s2.shape
          obtain ⟨va, vc, rfl⟩ := s3.shape
          generalize c.writes.getD m noPlc = P at *
          generalize writeE P = y at *
          clear hst hzm hat s1 s2 s3
          go_wp2_with fail
          refine WF.out.mono ?_
          rintro e w2 ⟨rfl, hg2⟩
          have hgw := grown_trans hg hg2
          by_cases h10 : 10 ≤ m
          · have i2 : (10 : Int) ≤ (m : Int) := by omega
            have HZ3 : Hid (z = 1) := by show _ = _; rw [HZM.out, if_pos h10, if_neg (by omega)]
            clear h10
            go_wp2
            go_ret
            exact ⟨ret_int HZ3.out, grown_trans hg0 hgw⟩
          · have i2 : ¬ (10 : Int) ≤ (m : Int) := by omega
            by_cases hy : y = 0
            · have HZ3 : Hid (z = wfE (m + 1) (c.writes.drop (m + 1))) := by show _ = _; rw [HZM.out, if_neg h10, if_pos hy]
              subst hy
              clear h10
              go_wp2_with fail
              go_roundw
              case rel => exact ⟨m + 1, by omega, by go_num, HZ3.out, hgw⟩
              case measure => simp [intOf]; omega
            · have HZ3 : Hid (z = y) := by show _ = _; rw [HZM.out, if_neg h10, if_neg hy]
              have hy' : (y != 0) = true := by simpa using hy
              clear h10 hy
              go_wp2
              go_ret
              exact ⟨ret_int HZ3.out, grown_trans hg0 hgw⟩
        · obtain rfl : m = c.writes.length := by omega
          have HZ3 : Hid (z = 0) := by show _ = _; rw [hzm]; exact wfE_end _
          clear hzm
          go_wp2
          go_ret
          exact ⟨ret_int HZ3.out, grown_trans hg0 hg⟩
  · rw [decide_eq_false ht] at IN
    have HZ2 : Hid (z = 2) := by show _ = _; rw [HZ.out, if_neg ht]
    clear ht HZ
    go_enter Tryz.func50, Tryz.ntmps50
    go_upto_region 1 with fail
    rw [← HW0.out]
    go_wp2_with fail
    refine IN.out.mono ?_
    rintro e w' ⟨rfl, rfl⟩
    go_wp2
    go_ret
    exact ⟨ret_int HZ2.out, hg0⟩
end Go.Proofs.YtljdconhplgipaaGreat

/-
  The document's answers: HistoryFault, folded, FoldOf.
-/
namespace Go.Proofs.YtljdconhplgipaaGreat
open Go.RowKit
set_option maxRecDepth 100000 in
set_option maxHeartbeats 2000000 in
theorem historyFault_any (w : World) (v : Value) (l : List Cmt) (hv : CommitsIs w v l) (hl : FitsCs l) :
    Calls Tryz.prog 32 #[v] w fun e w' => e = .returned (.int .i64 (histE l)) ∧ w.grownBy w' none := by
  obtain ⟨a, cap, rfl⟩ := hv.shape
  obtain ⟨z, hz⟩ : ∃ z, z = histE l := ⟨_, rfl⟩
  have HZ : Hid (z = if 300 < l.length then 1 else histFrom [] 0 l) := hz
  rw [← hz]
  have HV : Hid (CommitsIs w (.slice a l.length cap) l) := hv
  have HF : Hid (∀ i, i < l.length → FitsC (l.getD i noCmt)) := hl.each
  have hlen : l.length ≤ 140737488355328 := by have := hl.many; omega
  clear hz hv hl
  by_cases h300 : 300 < l.length
  · have HZ2 : Hid (z = 1) := by show _ = _; rw [HZ.out, if_pos h300]
    have i1 : (l.length : Int) > 300 := by omega
    go_enter Tryz.func32, Tryz.ntmps32
    go_wp2
    go_ret
    exact ⟨ret_int HZ2.out, grown_refl _ _⟩
  · have HZ2 : Hid (z = histFrom (foldH [] (l.take 0)) 0 (l.drop 0)) := by show _ = _; rw [HZ.out, if_neg h300]; rfl
    have i1 : ¬ (l.length : Int) > 300 := by omega
    go_enter Tryz.func32, Tryz.ntmps32
    go_wp2_with fail
    go_loopw [3, 4] (fun fv iv wr => ∃ m : Nat, m ≤ l.length ∧ iv = .int .i64 (m : Int) ∧ TensIs wr fv (foldH [] (l.take m)) ∧ z = histFrom (foldH [] (l.take m)) m (l.drop m) ∧ w.grownBy wr none) (fun _ i _ => l.length - (intOf i).toNat)
    case atStart => exact ⟨0, by omega, rfl, tensIs_nil _, HZ2.out, grown_refl _ _⟩
    case round =>
      obtain ⟨m, hm, rfl, hfv, hzm, hg⟩ := hrel
      by_cases hlt : m < l.length
      · have i2 : (m : Int) < (l.length : Int) := by omega
        obtain ⟨b, o, rfl, hat⟩ := HV.out.at m hlt
        obtain ⟨vs, c1, c2, s1⟩ := hat.grown hg
        have hst := hist_step l m hlt
        rw [hst] at hzm
        obtain ⟨fa, fc, rfl⟩ := hfv.shape
        have hFC := HF.out m hlt
        obtain ⟨FLm, hFLm⟩ : ∃ FLm, FLm = foldH [] (l.take m) := ⟨_, rfl⟩
        have HNX : Hid (foldH [] (l.take (m + 1)) = appliedF FLm (l.getD m noCmt).writes) := by show _ = _; rw [hFLm]; exact foldH_next l m hlt
        rw [← hFLm] at hfv hzm ⊢
        have HFV : Hid (TensIs wr (.slice fa FLm.length fc) FLm) := hfv
        have CF : Hid (Calls Tryz.prog 50 #[.agg #[.int .i64 (l.getD m noCmt).turn, vs]] wr fun e w' => e = .returned (.int .i64 (commitE (l.getD m noCmt))) ∧ wr.grownBy w' none) := commitFault_any wr _ _ ⟨vs, rfl, s1⟩ hFC.writes
        have AP : Hid (∀ w', wr.grownBy w' none → Calls Tryz.prog 51 #[.slice fa FLm.length fc, vs] w' fun e w'' => ∃ x, e = .returned (.tuple #[x, .int .i64 (appliedE FLm (l.getD m noCmt).writes)]) ∧ TensIs w'' x (appliedF FLm (l.getD m noCmt).writes) ∧ w'.grownBy w'' none) := fun w' h => applied_any w' _ _ _ _ (HFV.out.grown h) (s1.grown h)
        have HZM : Hid (z = if commitE (l.getD m noCmt) = 0 then (if (l.getD m noCmt).turn = ((m + 1 : Nat) : Int) then (if appliedE FLm (l.getD m noCmt).writes = 0 then histFrom (foldH [] (l.take (m + 1))) (m + 1) (l.drop (m + 1)) else appliedE FLm (l.getD m noCmt).writes) else 3) else commitE (l.getD m noCmt)) := hzm
        obtain ⟨va, vc, rfl⟩ := s1.shape
        clear hst hzm hat s1 hfv hFLm hFC
        generalize l.getD m noCmt = C at *
        generalize appliedE FLm C.writes = AE at *
        generalize appliedF FLm C.writes = AF at *
        generalize commitE C = CE at *
        go_wp2_with fail
        refine CF.out.mono ?_
        rintro e w1 ⟨rfl, hg1⟩
        have d1 := hg1.cell c1 (by simp)
        have d2 := hg1.cell c2 (by simp)
        clear c1 c2
        have hgw1 := grown_trans hg hg1
        by_cases hce : CE = 0
        · have HZN : Hid (z = if C.turn = ((m + 1 : Nat) : Int) then (if AE = 0 then histFrom (foldH [] (l.take (m + 1))) (m + 1) (l.drop (m + 1)) else AE) else 3) := by show _ = _; rw [HZM.out, if_pos hce]
          subst hce
          by_cases htn : C.turn = ((m + 1 : Nat) : Int)
          · have t1 : (C.turn != (m : Int) + 1) = false := by simp only [bne_eq_false_iff_eq]; omega
            go_wp2_with fail
            refine (AP.out _ hg1).mono ?_
            rintro e w2 ⟨x, rfl, hx, hg2⟩
            obtain ⟨xa, xn, xc, rfl⟩ : ∃ a n c, x = .slice a n c := by obtain ⟨a, c, e⟩ := hx.shape; exact ⟨a, _, c, e⟩
            have hgw2 := grown_trans hgw1 hg2
            by_cases hae : AE = 0
            · have HZ3 : Hid (z = histFrom (foldH [] (l.take (m + 1))) (m + 1) (l.drop (m + 1))) := by show _ = _; rw [HZN.out, if_pos htn, if_pos hae]
              have HX : Hid (TensIs w2 (.slice xa xn xc) (foldH [] (l.take (m + 1)))) := by show TensIs _ _ _; rw [HNX.out]; exact hx
              subst hae
              clear hx htn
              go_wp2_with fail
              go_roundw
              case rel => exact ⟨m + 1, by omega, by go_num, HX.out, HZ3.out, hgw2⟩
              case measure => simp [intOf]; omega
            · have HZ3 : Hid (z = AE) := by show _ = _; rw [HZN.out, if_pos htn, if_neg hae]
              have hae' : (AE != 0) = true := by simpa using hae
              clear hx htn hae
              go_wp2
              go_ret
              exact ⟨ret_int HZ3.out, hgw2⟩
          · have t1 : (C.turn != (m : Int) + 1) = true := by rw [bne_iff_ne]; omega
            have HZ3 : Hid (z = 3) := by show _ = _; rw [HZN.out, if_neg htn]
            clear htn
            go_wp2
            go_ret
            exact ⟨ret_int HZ3.out, hgw1⟩
        · have HZ3 : Hid (z = CE) := by show _ = _; rw [HZM.out, if_neg hce]
          have hce' : (CE == 0) = false := by simpa using hce
          have hce2 : (CE != 0) = true := by simpa using hce
          clear hce
          go_wp2
          go_ret
          exact ⟨ret_int HZ3.out, hgw1⟩
      · obtain rfl : m = l.length := by omega
        have HZ3 : Hid (z = 0) := by show _ = _; rw [hzm]; exact hist_end l
        have i2 : ¬ (l.length : Int) < (l.length : Int) := by omega
        clear hzm hfv
        go_wp2
        go_ret
        exact ⟨ret_int HZ3.out, hg⟩
set_option maxRecDepth 100000 in
set_option maxHeartbeats 2000000 in
theorem folded_any (w : World) (v : Value) (l : List Cmt) (k : Nat) (hv : CommitsIs w v l) (hk : k ≤ l.length) (hl : l.length ≤ 1000000) :
    Calls Tryz.prog 34 #[v, .int .i64 (k : Int)] w fun e w' => ∃ x, e = .returned x ∧ TensIs w' x (foldH [] (l.take k)) ∧ w.grownBy w' none := by
  obtain ⟨a, cap, rfl⟩ := hv.shape
  have HV : Hid (CommitsIs w (.slice a l.length cap) l) := hv
  clear hv
  go_enter Tryz.func34, Tryz.ntmps34
  go_wp2_with fail
  go_loopw [5, 6] (fun fv iv wr => ∃ m : Nat, m ≤ k ∧ iv = .int .i64 (m : Int) ∧ TensIs wr fv (foldH [] (l.take m)) ∧ w.grownBy wr none) (fun _ i _ => k - (intOf i).toNat)
  case atStart => exact ⟨0, by omega, rfl, tensIs_nil _, grown_refl _ _⟩
  case round =>
    obtain ⟨m, hm, rfl, hfv, hg⟩ := hrel
    obtain ⟨fa, fc, rfl⟩ := hfv.shape
    by_cases hlt : m < k
    · have i2 : (m : Int) < (k : Int) := by omega
      have i3 : (m : Int) < (l.length : Int) := by omega
      obtain ⟨b, o, rfl, hat⟩ := HV.out.at m (by omega)
      obtain ⟨vs, _, c2, s1⟩ := hat.grown hg
      obtain ⟨FLm, hFLm⟩ : ∃ FLm, FLm = foldH [] (l.take m) := ⟨_, rfl⟩
      have HNX : Hid (foldH [] (l.take (m + 1)) = appliedF FLm (l.getD m noCmt).writes) := by show _ = _; rw [hFLm]; exact foldH_next l m (by omega)
      rw [← hFLm] at hfv ⊢
      have AP : Hid (Calls Tryz.prog 51 #[.slice fa FLm.length fc, vs] wr fun e w'' => ∃ x, e = .returned (.tuple #[x, .int .i64 (appliedE FLm (l.getD m noCmt).writes)]) ∧ TensIs w'' x (appliedF FLm (l.getD m noCmt).writes) ∧ wr.grownBy w'' none) := applied_any wr _ _ _ _ hfv s1
      obtain ⟨va, vc, rfl⟩ := s1.shape
      clear hat s1 hfv hFLm
      generalize l.getD m noCmt = C at *
      go_wp2_with fail
      refine AP.out.mono ?_
      rintro e w2 ⟨x, rfl, hx, hg2⟩
      obtain ⟨xa, xn, xc, rfl⟩ : ∃ a n c, x = .slice a n c := by obtain ⟨a, c, e⟩ := hx.shape; exact ⟨a, _, c, e⟩
      have HX : Hid (TensIs w2 (.slice xa xn xc) (foldH [] (l.take (m + 1)))) := by show TensIs _ _ _; rw [HNX.out]; exact hx
      have hgw2 := grown_trans hg hg2
      clear hx
      go_wp2_with fail
      go_roundw
      case rel => exact ⟨m + 1, by omega, by go_num, HX.out, hgw2⟩
      case measure => simp [intOf]; omega
    · obtain rfl : m = k := by omega
      have i2 : ¬ (m : Int) < (m : Int) := by omega
      have HX : Hid (TensIs wr (.slice fa (foldH [] (l.take m)).length fc) (foldH [] (l.take m))) := hfv
      clear hfv
      go_wp2
      go_ret
      exact ⟨_, rfl, HX.out, hg⟩
set_option maxRecDepth 100000 in
set_option maxHeartbeats 2000000 in
theorem foldOf_any (w : World) (v : Value) (l : List Cmt) (turn : Int) (hv : CommitsIs w v l) (hl : FitsCs l) :
    Calls Tryz.prog 14 #[v, .int .i64 turn] w fun e w' => ∃ x, e = .returned (.tuple #[x, .int .i64 (foldE l turn)]) ∧ TensIs w' x (foldT l turn) ∧ w.grownBy w' none := by
  obtain ⟨a, cap, rfl⟩ := hv.shape
  have HIST : Hid (Calls Tryz.prog 32 #[.slice a l.length cap] w fun e w' => e = .returned (.int .i64 (histE l)) ∧ w.grownBy w' none) := historyFault_any w _ l hv hl
  have IN : Hid (∀ w', Calls Tryz.prog 33 #[.int .i64 turn, .int .i64 0, .int .i64 (l.length : Int)] w' fun e w'' => e = .returned (.bool (decide (0 ≤ turn ∧ turn ≤ (l.length : Int)))) ∧ w'' = w') := fun w' => in_any _ _ _ _
  by_cases hh : histE l = 0
  · have h300 := ((hist_iff l).1 hh).1
    by_cases ht : 0 ≤ turn ∧ turn ≤ (l.length : Int)
    · have E1 : foldE l turn = 0 := by rw [foldE, if_pos hh, if_pos ht]
      have E2 : foldT l turn = foldH [] (l.take turn.toNat) := by rw [foldT, if_pos E1]
      obtain ⟨k, rfl⟩ : ∃ k : Nat, turn = (k : Int) := ⟨turn.toNat, by omega⟩
      rw [Int.toNat_natCast] at E2
      rw [E1, E2]
      rw [hh] at HIST
      rw [decide_eq_true ht] at IN
      have FO : Hid (∀ w', w.grownBy w' none → Calls Tryz.prog 34 #[.slice a l.length cap, .int .i64 (k : Int)] w' fun e w'' => ∃ x, e = .returned x ∧ TensIs w'' x (foldH [] (l.take k)) ∧ w'.grownBy w'' none) := fun w' h => folded_any w' _ l k (hv.grown h) (by omega) (by omega)
      generalize foldH [] (l.take k) = FK at *
      clear hv hl hh E1 E2 ht
      go_enter Tryz.func14, Tryz.ntmps14
      go_wp2_with fail
      refine HIST.out.mono ?_
      rintro e w1 ⟨rfl, hg1⟩
      go_wp2_with fail
      refine (IN.out _).mono ?_
      rintro e w2 ⟨rfl, rfl⟩
      go_wp2_with fail
      refine (FO.out _ hg1).mono ?_
      rintro e w3 ⟨x, rfl, hx, hg3⟩
      obtain ⟨xa, xc, rfl⟩ := hx.shape
      have HX : Hid (TensIs w3 (.slice xa FK.length xc) FK) := hx
      clear hx
      go_wp2
      go_ret2
      exact ⟨_, rfl, HX.out, grown_trans hg1 hg3⟩
    · have E1 : foldE l turn = 2 := by rw [foldE, if_pos hh, if_neg ht]
      have E2 : foldT l turn = [] := by rw [foldT, E1, if_neg (by decide)]
      rw [E1, E2]
      rw [hh] at HIST
      rw [decide_eq_false ht] at IN
      clear hv hl hh E1 E2 ht
      go_enter Tryz.func14, Tryz.ntmps14
      go_wp2_with fail
      refine HIST.out.mono ?_
      rintro e w1 ⟨rfl, hg1⟩
      go_wp2_with fail
      refine (IN.out _).mono ?_
      rintro e w2 ⟨rfl, rfl⟩
      go_wp2
      go_ret2
      exact ⟨_, rfl, tensIs_nil _, hg1⟩
  · have E1 : foldE l turn = histE l := by rw [foldE, if_neg hh]
    have E2 : foldT l turn = [] := by rw [foldT, E1, if_neg hh]
    rw [E1, E2]
    generalize histE l = HE at *
    have hh1 : (HE == 0) = false := by simpa using hh
    have hh2 : (HE != 0) = true := by simpa using hh
    clear hv hl hh E1 E2
    go_enter Tryz.func14, Tryz.ntmps14
    go_wp2_with fail
    refine HIST.out.mono ?_
    rintro e w1 ⟨rfl, hg1⟩
    go_wp2
    go_ret2
    exact ⟨_, rfl, tensIs_nil _, hg1⟩
end Go.Proofs.YtljdconhplgipaaGreat
