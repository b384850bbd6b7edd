/-
  The document's answer: CommitFault.
-/
import Derived.Test.YtljdconhplgipaaTapeA
import Derived.Test.YtljdconhplgipaaRKeyF
import Derived.Test.YtljdconhplgipaaRWrF
namespace Go.Proofs.Ytljdconhplgipaa
open Go.RowKit
theorem alloc_named4 (w : World) (o : Obj) : ∃ W : World, Hid (W = w.alloc o) ∧ w.grownBy W none ∧ Hid (W.heap[w.heap.size]? = some o) := ⟨w.alloc o, rfl, World.grownBy_alloc _ _ _, heap_alloc_new w o⟩
theorem ret_int {z y : Int} (h : z = y) : Ending.returned (.int .i64 y) = .returned (.int .i64 z) := by rw [h]
theorem ret_bool {z y : Bool} (h : z = y) : Ending.returned (.bool y) = .returned (.bool z) := by rw [h]
set_option maxRecDepth 100000 in
theorem commitFault_any (w : World) (v : Value) (c : Cmt) (hv : CommitIs w v c) (hl : FitsW c.writes) :
    Calls Try.prog 23 #[v] w fun e w' => e = .returned (.int .i64 (commitE c)) ∧ w.grownBy w' none := by
  obtain ⟨a, cap, rfl⟩ := hv.agg
  obtain ⟨W0, HW0, hg0, B0⟩ := alloc_named4 w (.cells #[.int .i64 c.turn, .slice a c.writes.length cap] 40)
  obtain ⟨c0, c1, _, _⟩ := pair_room (grown_refl W0 none) B0.out
  have IN : Hid (Calls Try.prog 25 #[.int .i64 c.turn, .int .i64 1, .int .i64 1048576] W0 fun e w' => e = .returned (.bool (decide (1 ≤ c.turn ∧ c.turn ≤ 1048576))) ∧ w' = W0) := in_any _ _ _ _
  have HW : Hid (WritesIs W0 (.slice a c.writes.length cap) c.writes) := hv.writes.2.grown hg0
  have hlen := hl.len
  obtain ⟨z, hz⟩ : ∃ z, z = commitE c := ⟨_, rfl⟩
  have HZ : Hid (z = if 1 ≤ c.turn ∧ c.turn ≤ 1048576 then (if c.writes.length = 0 then 1 else wfE 0 c.writes) else 2) := hz
  rw [← hz]
  clear hz hv hl
  by_cases ht : 1 ≤ c.turn ∧ c.turn ≤ 1048576
  · rw [decide_eq_true ht] at IN
    by_cases hn : c.writes.length = 0
    · have HZ2 : Hid (z = 1) := by show _ = _; rw [HZ.out, if_pos ht, if_pos hn]
      have i0 : ((c.writes.length : Int) == 0) = true := by simp; simpa using hn
      clear ht hn
      go_enter Try.func23, Try.ntmps23
      go_upto_region 1 with fail
      rw [← HW0.out]
      go_wp2_with fail
      refine IN.out.mono ?_
      rintro e w' ⟨rfl, rfl⟩
      go_wp2
      go_ret
      exact ⟨ret_int HZ2.out, hg0⟩
    · have HZ2 : Hid (z = wfE 0 c.writes) := by show _ = _; rw [HZ.out, if_pos ht, if_neg hn]
      have i0 : ((c.writes.length : Int) == 0) = false := by simp; simpa using hn
      clear ht hn HZ
      go_enter Try.func23, Try.ntmps23
      go_upto_region 1 with fail
      rw [← HW0.out]
      go_wp2_with fail
      refine IN.out.mono ?_
      rintro e w' ⟨rfl, rfl⟩
      go_wp2_with fail
      go_loopw [3] (fun i wr => ∃ m : Nat, m ≤ c.writes.length ∧ i = .int .i64 (m : Int) ∧ z = wfE m (c.writes.drop m) ∧ w'.grownBy wr none) (fun i _ => c.writes.length - (intOf i).toNat)
      case atStart => exact ⟨0, by omega, rfl, HZ2.out, grown_refl _ _⟩
      case round =>
        obtain ⟨m, hm, rfl, hzm, hg⟩ := hrel
        have d0 := hg.cell c0 (by simp)
        have d1 := hg.cell c1 (by simp)
        by_cases hlt : m < c.writes.length
        · have i1 : (m : Int) < (c.writes.length : Int) := by omega
          obtain ⟨b, o, rfl, hat⟩ := HW.out.at m hlt
          obtain ⟨vn, vk, vv, e1, e2, e3, e4, s1, s2, s3⟩ := hat.grown hg
          have WF : Hid (Calls Try.prog 39 #[.agg #[vn, vk, .bool (c.writes.getD m noPlc).gone, vv]] wr fun e w' => e = .returned (.int .i64 (writeE (c.writes.getD m noPlc))) ∧ wr.grownBy w' none) := writeFault_any wr _ _ ⟨vn, vk, vv, rfl, s1, s2, s3⟩
          have hst := wfE_drop c.writes m hlt
          rw [hst] at hzm
          have HZM : Hid (z = if (if 10 ≤ m then (1 : Int) else writeE (c.writes.getD m noPlc)) = 0 then wfE (m + 1) (c.writes.drop (m + 1)) else (if 10 ≤ m then (1 : Int) else writeE (c.writes.getD m noPlc))) := hzm
          obtain ⟨na, nc, rfl⟩ := s1.shape
          obtain ⟨ka, kc, rfl⟩ := s2.shape
          obtain ⟨va, vc, rfl⟩ := s3.shape
          generalize c.writes.getD m noPlc = P at *
          generalize writeE P = y at *
          clear hst hzm hat s1 s2 s3
          go_wp2_with fail
          refine WF.out.mono ?_
          rintro e w2 ⟨rfl, hg2⟩
          have hgw := grown_trans hg hg2
          by_cases h10 : 10 ≤ m
          · have i2 : (10 : Int) ≤ (m : Int) := by omega
            have HZ3 : Hid (z = 1) := by show _ = _; rw [HZM.out, if_pos h10, if_neg (by omega)]
            clear h10
            go_wp2
            go_ret
            exact ⟨ret_int HZ3.out, grown_trans hg0 hgw⟩
          · have i2 : ¬ (10 : Int) ≤ (m : Int) := by omega
            by_cases hy : y = 0
            · have HZ3 : Hid (z = wfE (m + 1) (c.writes.drop (m + 1))) := by show _ = _; rw [HZM.out, if_neg h10, if_pos hy]
              subst hy
              clear h10
              go_wp2_with fail
              go_roundw
              case rel => exact ⟨m + 1, by omega, by go_num, HZ3.out, hgw⟩
              case measure => simp [intOf]; omega
            · have HZ3 : Hid (z = y) := by show _ = _; rw [HZM.out, if_neg h10, if_neg hy]
              have hy' : (y != 0) = true := by simpa using hy
              clear h10 hy
              go_wp2
              go_ret
              exact ⟨ret_int HZ3.out, grown_trans hg0 hgw⟩
        · obtain rfl : m = c.writes.length := by omega
          have HZ3 : Hid (z = 0) := by show _ = _; rw [hzm]; exact wfE_end _
          clear hzm
          go_wp2
          go_ret
          exact ⟨ret_int HZ3.out, grown_trans hg0 hg⟩
  · rw [decide_eq_false ht] at IN
    have HZ2 : Hid (z = 2) := by show _ = _; rw [HZ.out, if_neg ht]
    clear ht HZ
    go_enter Try.func23, Try.ntmps23
    go_upto_region 1 with fail
    rw [← HW0.out]
    go_wp2_with fail
    refine IN.out.mono ?_
    rintro e w' ⟨rfl, rfl⟩
    go_wp2
    go_ret
    exact ⟨ret_int HZ2.out, hg0⟩
end Go.Proofs.Ytljdconhplgipaa
