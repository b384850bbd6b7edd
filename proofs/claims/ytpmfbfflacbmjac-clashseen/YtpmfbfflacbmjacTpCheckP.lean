/-
  tape.Check, as it landed, keeps P6.2.
-/
import Derived.Test.YtpmfbfflacbmjacPart5
import Derived.Test.YtpmfbfflacbmjacPart2
import Derived.Test.YtpmfbfflacbmjacFApplyP
namespace Go.Proofs.Ytpmfbfflacbmjac
open Go.RowKit
theorem ret_intT {x y : Int} (h : x = y) : Ending.returned (Value.int .i64 y) = Ending.returned (Value.int .i64 x) := by rw [h]
theorem alloc_namedT (w : World) (o : Obj) : ∃ W : World, Hid (W = w.alloc o) ∧ w.grownBy W none ∧ Hid (W.heap[w.heap.size]? = some o) := ⟨w.alloc o, rfl, World.grownBy_alloc _ _ _, heap_alloc_new w o⟩
set_option maxRecDepth 100000 in
set_option maxHeartbeats 2000000 in
theorem tpcheck_ok : TpCheckOK := by
  intro w v c hv hl
  obtain ⟨a, cap, rfl⟩ := hv.agg
  obtain ⟨W0, HW0, hg0, B0⟩ := alloc_namedT w (.cells #[.int .i64 c.turn, .slice a c.writes.length cap] 55)
  obtain ⟨c0, c1, _, _⟩ := pair_room (grown_refl W0 none) B0.out
  have HW : Hid (WritesIs W0 (.slice a c.writes.length cap) c.writes) := hv.writes.2.grown hg0
  have AP : Hid (∀ w' u p, WritesIs w' u [p] → PlcFits p → Calls Try.prog 21 #[.slice none 0 0, u] w' fun e w'' => ∃ x, e = .returned (.tuple #[x, .int .i64 (writeE p)]) ∧ w'.grownBy w'' none) := fun w' u p h hp => by
    have h0 := fapply_ok w' (.slice none 0 0) u [] [p] (tensIs_nil w') h ⟨by simp, by simp⟩ ⟨by simp, fun i hi => by
      match i, hi with
      | 0, _ => exact hp⟩
    rw [applied_one0] at h0
    refine h0.mono ?_
    rintro e w'' ⟨x, rfl, _, hg⟩
    exact ⟨x, rfl, hg⟩
  have FT : Hid (∀ i, i < c.writes.length → PlcFits (c.writes.getD i noPlc)) := hl.writes.each
  have hlen := hl.writes.len
  have ht0 := hl.turn
  obtain ⟨z, hz⟩ : ∃ z, z = commitE c := ⟨_, rfl⟩
  have HZ : Hid (z = if 1 ≤ c.turn ∧ c.turn ≤ 1048576 then (if c.writes.length = 0 then 1 else wfE 0 c.writes) else 2) := hz
  rw [← hz]
  clear hz hv hl
  by_cases t1 : c.turn < 1
  · have HZ2 : Hid (z = 2) := by show _ = _; rw [HZ.out, if_neg (by omega)]
    go_enter Try.func71, Try.ntmps71
    go_upto_region 1 with fail
    rw [← HW0.out]
    go_wp2
    go_ret
    exact ⟨ret_intT HZ2.out, hg0⟩
  · by_cases t2 : c.turn > 1048576
    · have HZ2 : Hid (z = 2) := by show _ = _; rw [HZ.out, if_neg (by omega)]
      go_enter Try.func71, Try.ntmps71
      go_upto_region 1 with fail
      rw [← HW0.out]
      go_wp2
      go_ret
      exact ⟨ret_intT HZ2.out, hg0⟩
    · by_cases hn : c.writes.length = 0
      · have HZ2 : Hid (z = 1) := by show _ = _; rw [HZ.out, if_pos (by omega), if_pos hn]
        have i0 : ((c.writes.length : Int) == 0) = true := by simp; simpa using hn
        clear hn
        go_enter Try.func71, Try.ntmps71
        go_upto_region 1 with fail
        rw [← HW0.out]
        go_wp2
        go_ret
        exact ⟨ret_intT HZ2.out, hg0⟩
      · have HZ2 : Hid (z = wfE 0 c.writes) := by show _ = _; rw [HZ.out, if_pos (by omega), if_neg hn]
        have i0 : ((c.writes.length : Int) == 0) = false := by simp; simpa using hn
        clear hn HZ
        go_enter Try.func71, Try.ntmps71
        go_upto_region 1 with fail
        rw [← HW0.out]
        go_wp2_with fail
        go_loopw [22] (fun i wr => ∃ m : Nat, m ≤ c.writes.length ∧ i = .int .i64 (m : Int) ∧ z = wfE m (c.writes.drop m) ∧ W0.grownBy wr none) (fun i _ => c.writes.length - (intOf i).toNat)
        case atStart => exact ⟨0, by omega, rfl, HZ2.out, grown_refl _ _⟩
        case round =>
          obtain ⟨m, hm, rfl, hzm, hg⟩ := hrel
          by_cases hlt : m < c.writes.length
          · have i1 : (m : Int) < (c.writes.length : Int) := by omega
            obtain ⟨b, o, rfl, hat⟩ := HW.out.at m hlt
            obtain ⟨vn, vk, vv, e1, e2, e3, e4, s1, s2, s3⟩ := hat.grown hg
            have hst := wfE_drop c.writes m hlt
            rw [hst] at hzm
            have HZM : Hid (z = if (if 10 ≤ m then (1 : Int) else writeE (c.writes.getD m noPlc)) = 0 then wfE (m + 1) (c.writes.drop (m + 1)) else (if 10 ≤ m then (1 : Int) else writeE (c.writes.getD m noPlc))) := hzm
            obtain ⟨na, nc, rfl⟩ := s1.shape
            obtain ⟨ka, kc, rfl⟩ := s2.shape
            obtain ⟨va, vc, rfl⟩ := s3.shape
            have HF := FT.out m hlt
            generalize c.writes.getD m noPlc = P at *
            obtain ⟨W1, HW1, hg1, B1⟩ := alloc_namedT wr (.cells #[.slice na P.name.length nc, .slice ka P.key.length kc, .bool P.gone, .slice va P.value.length vc] 53)
            obtain ⟨⟨q0, q1, q2, q3⟩, _⟩ := quad_room (grown_refl W1 none) B1.out
            obtain ⟨W2, HW2, hg2, B2⟩ := alloc_namedT W1 (.cells #[.slice na P.name.length nc, .slice ka P.key.length kc, .bool P.gone, .slice va P.value.length vc] 53)
            have WO : WritesIs W2 (.slice (some ⟨W1.heap.size, 0, none⟩) 1 1) [P] := by
              rw [HW2.out]; exact writes_one W1 _ _ _ P (s1.grown hg1) (s2.grown hg1) (s3.grown hg1) _
            have AP2 : Hid (Calls Try.prog 21 #[.slice none 0 0, .slice (some ⟨W1.heap.size, 0, none⟩) 1 1] W2 fun e w'' => ∃ x, e = .returned (.tuple #[x, .int .i64 (writeE P)]) ∧ W2.grownBy w'' none) := AP.out W2 _ P WO HF
            generalize writeE P = y at *
            have hgr1 := grown_trans hg hg1
            clear hst hzm hat s1 s2 s3 HF WO AP
            by_cases h10 : 10 ≤ m
            · have i2 : (m : Int) ≥ 10 := by omega
              have HZ3 : Hid (z = 1) := by show _ = _; rw [HZM.out, if_pos h10, if_neg (by omega)]
              clear h10
              go_upto_region 8 with fail
              rw [← HW1.out]
              go_wp2
              go_ret
              exact ⟨ret_intT HZ3.out, grown_trans hg0 hgr1⟩
            · have i2 : ¬ (m : Int) ≥ 10 := by omega
              go_upto_region 8 with fail
              rw [← HW1.out]
              clear e1 e2 e3 e4
              go_wp2_with fail
              rw [← HW2.out]
              refine AP2.out.mono ?_
              rintro e w3 ⟨x, rfl, hg3⟩
              have hgw := grown_trans hgr1 (grown_trans hg2 hg3)
              by_cases hy : y = 0
              · have HZ3 : Hid (z = wfE (m + 1) (c.writes.drop (m + 1))) := by show _ = _; rw [HZM.out, if_neg h10, if_pos hy]
                subst hy
                clear h10 q0 q1 q2 q3
                go_wp2_with fail
                go_roundw
                case rel => exact ⟨m + 1, by omega, by go_num, HZ3.out, hgw⟩
                case measure => simp [intOf]; omega
              · have HZ3 : Hid (z = y) := by show _ = _; rw [HZM.out, if_neg h10, if_neg hy]
                have hy' : (y != 0) = true := by simpa using hy
                clear h10 hy q0 q1 q2 q3
                go_wp2
                go_ret
                exact ⟨ret_intT HZ3.out, grown_trans hg0 hgw⟩
          · obtain rfl : m = c.writes.length := by omega
            have HZ3 : Hid (z = 0) := by show _ = _; rw [hzm]; exact wfE_end _
            have i1 : ¬ (c.writes.length : Int) < (c.writes.length : Int) := by omega
            clear hzm
            go_wp2
            go_ret
            exact ⟨ret_intT HZ3.out, grown_trans hg0 hg⟩
end Go.Proofs.Ytpmfbfflacbmjac
