/-
  Texts of this proof, joined: TpCheckP, TpEncP.
-/
import Derived.Test.YtkheombfjgjedacDoorPart4
import Derived.Test.YtkheombfjgjedacDoorPart2
import Derived.Test.YtkheombfjgjedacDoorFApplyP
/-
  tape.Check, as it landed, keeps P6.2.
-/
namespace Go.Proofs.YtkheombfjgjedacDoor
open Go.RowKit
theorem ret_intT {x y : Int} (h : x = y) : Ending.returned (Value.int .i64 y) = Ending.returned (Value.int .i64 x) := by rw [h]
theorem alloc_namedT (w : World) (o : Obj) : ∃ W : World, Hid (W = w.alloc o) ∧ w.grownBy W none ∧ Hid (W.heap[w.heap.size]? = some o) := ⟨w.alloc o, rfl, World.grownBy_alloc _ _ _, heap_alloc_new w o⟩
set_option maxRecDepth 100000 in
set_option maxHeartbeats 2000000 in
theorem tpcheck_ok : TpCheckOK := by
  intro w v c hv hl
  obtain ⟨a, cap, rfl⟩ := hv.agg
  obtain ⟨W0, HW0, hg0, B0⟩ := alloc_namedT w (.cells #[.int .i64 c.turn, .slice a c.writes.length cap] 37)
  obtain ⟨c0, c1, _, _⟩ := pair_room (grown_refl W0 none) B0.out
  have HW : Hid (WritesIs W0 (.slice a c.writes.length cap) c.writes) := hv.writes.2.grown hg0
  have AP : Hid (∀ w' u p, WritesIs w' u [p] → PlcFits p → Calls Tryd.prog 21 #[.slice none 0 0, u] w' fun e w'' => ∃ x, e = .returned (.tuple #[x, .int .i64 (writeE p)]) ∧ w'.grownBy w'' none) := fun w' u p h hp => by
    have h0 := fapply_ok w' (.slice none 0 0) u [] [p] (tensIs_nil w') h ⟨by simp, by simp⟩ ⟨by simp, fun i hi => by
      match i, hi with
      | 0, _ => exact hp⟩
    rw [applied_one] at h0
    refine h0.mono ?_
    rintro e w'' ⟨x, rfl, _, hg⟩
    exact ⟨x, rfl, hg⟩
  have FT : Hid (∀ i, i < c.writes.length → PlcFits (c.writes.getD i noPlc)) := hl.writes.each
  have hlen := hl.writes.len
  have ht0 := hl.turn
  obtain ⟨z, hz⟩ : ∃ z, z = commitE c := ⟨_, rfl⟩
  have HZ : Hid (z = if 1 ≤ c.turn ∧ c.turn ≤ 1048576 then (if c.writes.length = 0 then 1 else wfE 0 c.writes) else 2) := hz
  rw [← hz]
  clear hz hv hl
  by_cases t1 : c.turn < 1
  · have HZ2 : Hid (z = 2) := by show _ = _; rw [HZ.out, if_neg (by omega)]
    go_enter Tryd.func32, Tryd.ntmps32
    go_upto_region 1 with fail
    rw [← HW0.out]
    go_wp2
    go_ret
    exact ⟨ret_intT HZ2.out, hg0⟩
  · by_cases t2 : c.turn > 1048576
    · have HZ2 : Hid (z = 2) := by show _ = _; rw [HZ.out, if_neg (by omega)]
      go_enter Tryd.func32, Tryd.ntmps32
      go_upto_region 1 with fail
      rw [← HW0.out]
      go_wp2
      go_ret
      exact ⟨ret_intT HZ2.out, hg0⟩
    · by_cases hn : c.writes.length = 0
      · have HZ2 : Hid (z = 1) := by show _ = _; rw [HZ.out, if_pos (by omega), if_pos hn]
        have i0 : ((c.writes.length : Int) == 0) = true := by simp; simpa using hn
        clear hn
        go_enter Tryd.func32, Tryd.ntmps32
        go_upto_region 1 with fail
        rw [← HW0.out]
        go_wp2
        go_ret
        exact ⟨ret_intT HZ2.out, hg0⟩
      · have HZ2 : Hid (z = wfE 0 c.writes) := by show _ = _; rw [HZ.out, if_pos (by omega), if_neg hn]
        have i0 : ((c.writes.length : Int) == 0) = false := by simp; simpa using hn
        clear hn HZ
        go_enter Tryd.func32, Tryd.ntmps32
        go_upto_region 1 with fail
        rw [← HW0.out]
        go_wp2_with fail
        go_loopw [22] (fun i wr => ∃ m : Nat, m ≤ c.writes.length ∧ i = .int .i64 (m : Int) ∧ z = wfE m (c.writes.drop m) ∧ W0.grownBy wr none) (fun i _ => c.writes.length - (intOf i).toNat)
        case atStart => exact ⟨0, by omega, rfl, HZ2.out, grown_refl _ _⟩
        case round =>
          obtain ⟨m, hm, rfl, hzm, hg⟩ := hrel
          by_cases hlt : m < c.writes.length
          · have i1 : (m : Int) < (c.writes.length : Int) := by omega
            obtain ⟨b, o, rfl, hat⟩ := HW.out.at m hlt
            obtain ⟨vn, vk, vv, e1, e2, e3, e4, s1, s2, s3⟩ := hat.grown hg
            have hst := wfE_drop c.writes m hlt
            rw [hst] at hzm
            have HZM : Hid (z = if (if 10 ≤ m then (1 : Int) else writeE (c.writes.getD m noPlc)) = 0 then wfE (m + 1) (c.writes.drop (m + 1)) else (if 10 ≤ m then (1 : Int) else writeE (c.writes.getD m noPlc))) := hzm
            obtain ⟨na, nc, rfl⟩ := s1.shape
            obtain ⟨ka, kc, rfl⟩ := s2.shape
            obtain ⟨va, vc, rfl⟩ := s3.shape
            have HF := FT.out m hlt
            generalize c.writes.getD m noPlc = P at *
            obtain ⟨W1, HW1, hg1, B1⟩ := alloc_namedT wr (.cells #[.slice na P.name.length nc, .slice ka P.key.length kc, .bool P.gone, .slice va P.value.length vc] 48)
            obtain ⟨⟨q0, q1, q2, q3⟩, _⟩ := quad_room (grown_refl W1 none) B1.out
            obtain ⟨W2, HW2, hg2, B2⟩ := alloc_namedT W1 (.cells #[.slice na P.name.length nc, .slice ka P.key.length kc, .bool P.gone, .slice va P.value.length vc] 48)
            have WO : WritesIs W2 (.slice (some ⟨W1.heap.size, 0, none⟩) 1 1) [P] := by
              rw [HW2.out]; exact writes_one W1 _ _ _ P (s1.grown hg1) (s2.grown hg1) (s3.grown hg1) _
            have AP2 : Hid (Calls Tryd.prog 21 #[.slice none 0 0, .slice (some ⟨W1.heap.size, 0, none⟩) 1 1] W2 fun e w'' => ∃ x, e = .returned (.tuple #[x, .int .i64 (writeE P)]) ∧ W2.grownBy w'' none) := AP.out W2 _ P WO HF
            generalize writeE P = y at *
            have hgr1 := grown_trans hg hg1
            clear hst hzm hat s1 s2 s3 HF WO AP
            by_cases h10 : 10 ≤ m
            · have i2 : (m : Int) ≥ 10 := by omega
              have HZ3 : Hid (z = 1) := by show _ = _; rw [HZM.out, if_pos h10, if_neg (by omega)]
              clear h10
              go_upto_region 8 with fail
              rw [← HW1.out]
              go_wp2
              go_ret
              exact ⟨ret_intT HZ3.out, grown_trans hg0 hgr1⟩
            · have i2 : ¬ (m : Int) ≥ 10 := by omega
              go_upto_region 8 with fail
              rw [← HW1.out]
              clear e1 e2 e3 e4
              go_wp2_with fail
              rw [← HW2.out]
              refine AP2.out.mono ?_
              rintro e w3 ⟨x, rfl, hg3⟩
              have hgw := grown_trans hgr1 (grown_trans hg2 hg3)
              by_cases hy : y = 0
              · have HZ3 : Hid (z = wfE (m + 1) (c.writes.drop (m + 1))) := by show _ = _; rw [HZM.out, if_neg h10, if_pos hy]
                subst hy
                clear h10 q0 q1 q2 q3
                go_wp2_with fail
                go_roundw
                case rel => exact ⟨m + 1, by omega, by go_num, HZ3.out, hgw⟩
                case measure => simp [intOf]; omega
              · have HZ3 : Hid (z = y) := by show _ = _; rw [HZM.out, if_neg h10, if_neg hy]
                have hy' : (y != 0) = true := by simpa using hy
                clear h10 hy q0 q1 q2 q3
                go_wp2
                go_ret
                exact ⟨ret_intT HZ3.out, grown_trans hg0 hgw⟩
          · obtain rfl : m = c.writes.length := by omega
            have HZ3 : Hid (z = 0) := by show _ = _; rw [hzm]; exact wfE_end _
            have i1 : ¬ (c.writes.length : Int) < (c.writes.length : Int) := by omega
            clear hzm
            go_wp2
            go_ret
            exact ⟨ret_intT HZ3.out, grown_trans hg0 hg⟩
end Go.Proofs.YtkheombfjgjedacDoor

/-
  tape.Encode, as it landed, keeps P6.3.
-/
namespace Go.Proofs.YtkheombfjgjedacDoor
open Go.RowKit
theorem Own.anyT {base : Nat} {w : World} {v : Value} {bs : List UInt8} (h : Own base w v bs) : ∃ a n c, v = .slice a n c := by
  obtain ⟨a, c, e⟩ := h.shape
  exact ⟨a, _, c, e⟩
/-- Blocks of other types than bytes stay. -/
def StaysT (w w' : World) : Prop := ∀ (k : Nat) (cur : Array Value) (t : TypeId) (fz : Nat × Nat), w.heap[k]? = some (Obj.cells cur t fz) → t ≠ 5 → w'.heap[k]? = some (Obj.cells cur t fz)
/-- Where bytes of the call's own grow, blocks of other types stay. -/
theorem Own.otherT {base : Nat} {w w' : World} {v : Value} {bs : List UInt8} (h : Own base w v bs) (hg : w.grownBy w' v.ownBlock) {k : Nat} {cur : Array Value} {t : TypeId} {fz : Nat × Nat} (hk : w.heap[k]? = some (.cells cur t fz)) (ht : t ≠ 5) : w'.heap[k]? = some (.cells cur t fz) := by
  rw [hg.block k (Array.getElem?_eq_some_iff.1 hk).1 ?_]
  · exact hk
  · intro e
    rcases h.2 with ⟨rfl, _⟩ | ⟨g, cap, cur2, rfl, _, hgb, _⟩
    · cases e
    · simp [Value.ownBlock] at e
      subst e
      rw [hgb] at hk
      simp at hk
      exact ht hk.2.1.symm
set_option maxRecDepth 100000 in
set_option maxHeartbeats 1000000 in
/-- tape.appendText: bytes behind their length, behind bytes of the call's own. -/
theorem appendText_any (w0 w : World) (v u : Value) (bs cs : List UInt8) (h0 : w0.grownBy w none) (hown : Own w0.heap.size w v bs) (hu : SliceIs w0 u cs) (hb : bs.length ≤ 1000000) (hc : cs.length ≤ 1000000) :
    Calls Tryd.prog 33 #[v, u] w fun e w' => ∃ v', e = .returned v' ∧ Own w0.heap.size w' v' (bs ++ lenAnd cs) ∧ w0.grownBy w' none ∧ StaysT w w' := by
  obtain ⟨a, cap, rfl⟩ := hown.shape
  obtain ⟨ua, uc, rfl⟩ := hu.shape
  obtain ⟨x, hx⟩ : ∃ x : Int, x = ((UInt8.ofNat cs.length).toNat : Int) := ⟨_, rfl⟩
  obtain ⟨W0, HW0, hgA, B0⟩ := alloc_namedT w (.cells #[.int .u8 x] 5)
  have s1 : Hid (SliceIs W0 (.slice (some ⟨w.heap.size, 0, none⟩) 1 1) [UInt8.ofNat cs.length]) := by
    show SliceIs _ _ _
    rw [HW0.out, hx]; exact one_slice w _ 5
  have hcv : IntKind.u8.wrap (cs.length : Int) = x := by
    rw [hx]; simp [IntKind.wrap_u8]
  have O1 : Hid (Own w0.heap.size W0 (.slice a bs.length cap) bs) := hown.grownNone hgA
  have hgW := grown_trans h0 hgA
  have HU : Hid (SliceIs w0 (.slice ua cs.length uc) cs) := hu
  have hsz := hgW.size
  clear hx hown hu
  go_enter Tryd.func33, Tryd.ntmps33
  go_wp2_with (first
    | (at_builtin; rw [← HW0.out]; refine wpList_append_bytes rfl (.tmp 5) (.tmp 9) rfl w0.heap.size (.slice a bs.length cap) bs rfl O1.out (some ⟨w.heap.size, 0, none⟩) 1 1 [UInt8.ofNat cs.length] rfl s1.out ?_ hsz ?_; omega; intro v1 w1 ho1 hg1; have hgw1 : w0.grownBy w1 none := grown_own hgW O1.out hg1; obtain ⟨a1, n1, c1, rfl⟩ := Own.anyT ho1; have H1 : Hid (Own w0.heap.size w1 (.slice a1 n1 c1) (bs ++ [UInt8.ofNat cs.length])) := ho1; have U1 : Hid (SliceIs w1 (.slice ua cs.length uc) cs) := HU.out.grown hgw1; have hl1 : (bs ++ [UInt8.ofNat cs.length]).length + cs.length ≤ 140737488355328 := (by simp; omega); have hsz1 := hgw1.size; have OT1 : Hid (StaysT w w1) := (fun k cur t fz hk ht => O1.out.otherT hg1 (pair_old hgA hk) ht); clear ho1 hg1)
    | (at_builtin; refine wpList_append_bytes rfl (.tmp 10) (.tmp 11) rfl w0.heap.size (.slice a1 n1 c1) (bs ++ [UInt8.ofNat cs.length]) rfl H1.out ua cs.length uc cs rfl U1.out hl1 hsz1 ?_; intro v2 w2 ho2 hg2; have hgw2 : w0.grownBy w2 none := grown_own hgw1 H1.out hg2; obtain ⟨a2, n2, c2, rfl⟩ := Own.anyT ho2; have H2 : Hid (Own w0.heap.size w2 (.slice a2 n2 c2) (bs ++ lenAnd cs)) := (by rw [List.append_assoc] at ho2; exact ho2); have OT2 : Hid (StaysT w w2) := (fun k cur t fz hk ht => H1.out.otherT hg2 (OT1.out k cur t fz hk ht) ht); clear ho2 hg2))
  go_ret
  exact ⟨_, rfl, H2.out, hgw2, OT2.out⟩
set_option maxRecDepth 100000 in
set_option maxHeartbeats 2000000 in
theorem tpenc_ok : TpEncOK := by
  intro w v c hv hl
  obtain ⟨a, cap, rfl⟩ := hv.agg
  obtain ⟨W0, HW0, hg0, B0⟩ := alloc_namedT w (.cells #[.int .i64 c.turn, .slice a c.writes.length cap] 37)
  obtain ⟨c0, c1, _, _⟩ := pair_room (grown_refl W0 none) B0.out
  have CF : Hid (Calls Tryd.prog 32 #[.agg #[.int .i64 c.turn, .slice a c.writes.length cap]] W0 fun e w' => e = .returned (.int .i64 (commitE c)) ∧ W0.grownBy w' none) := tpcheck_ok W0 _ c (hv.grown hg0) hl
  have HW : Hid (WritesIs w (.slice a c.writes.length cap) c.writes) := hv.writes.2
  have hlen := hl.writes.len
  by_cases hz : commitE c = 0
  · obtain ⟨k1, k2, k3⟩ := (commit_iff c).1 hz
    have HK3 : Hid (∀ x ∈ c.writes, writeE x = 0) := k3
    have HE : Hid (encF c = headB c.turn.toNat c.writes.length ++ c.writes.flatMap writeB) := by show _ = _; rw [encF, if_pos hz, commitB]
    rw [hz] at CF ⊢
    obtain ⟨t, ht⟩ : ∃ t : Nat, c.turn = (t : Int) := ⟨c.turn.toNat, by omega⟩
    have hN : c.turn.toNat = t := by omega
    rw [hN] at HE
    have t1 : t ≤ 1048576 := by omega
    obtain ⟨G, hG⟩ : ∃ G, G = encF c := ⟨_, rfl⟩
    rw [← hG] at HE ⊢
    rw [ht] at c0 CF HW0 ⊢
    clear hz hv hl k3 hG k1 ht B0
    go_enter Tryd.func19, Tryd.ntmps19
    go_upto_region 1 with fail
    rw [← HW0.out]
    go_wp2_with fail
    refine CF.out.mono ?_
    rintro e w1 ⟨rfl, hg1⟩
    have d0 := hg1.cell c0 (by simp)
    have d1 := hg1.cell c1 (by simp)
    obtain ⟨W1, HW1, hgA1, B1⟩ := alloc_namedT w1 (.cells #[.int .u8 ((t : Int) / 65536), .int .u8 ((t : Int) / 256 % 256), .int .u8 ((t : Int) % 256), .int .u8 (c.writes.length : Int)] 5)
    have HH : Hid (Own w.heap.size W1 (.slice (some ⟨w1.heap.size, 0, none⟩) 4 4) (headB t c.writes.length)) := by
      have h1 := own_new w.heap.size w1 (headB t c.writes.length) (grown_trans hg0 hg1).size (by unfold maxLen; rw [headB_len]; omega)
      have e : bytesOf (headB t c.writes.length) = #[.int .u8 ((t : Int) / 65536), .int .u8 ((t : Int) / 256 % 256), .int .u8 ((t : Int) % 256), .int .u8 (c.writes.length : Int)] := by
        have e0 : (((UInt8.ofNat (t / 65536)).toNat : Nat) : Int) = (t : Int) / 65536 := by simp; omega
        have e1 : (((UInt8.ofNat (t / 256 % 256)).toNat : Nat) : Int) = (t : Int) / 256 % 256 := by simp
        have e2 : (((UInt8.ofNat (t % 256)).toNat : Nat) : Int) = (t : Int) % 256 := by simp
        have e3 : (((UInt8.ofNat c.writes.length).toNat : Nat) : Int) = (c.writes.length : Int) := by simp; omega
        simp only [headB, bytesOf, List.map_cons, List.map_nil, e0, e1, e2, e3]
      rw [e] at h1
      rw [HW1.out]
      exact h1
    go_upto_region 5 with fail
    rw [← HW1.out]
    have hgW1 := grown_trans hg0 (grown_trans hg1 hgA1)
    have f0 := hgA1.cell d0 (by simp)
    have f1 := hgA1.cell d1 (by simp)
    clear c0 c1 d0 d1
    go_wp2_with fail
    go_loopw [5, 32] (fun bv i wr => ∃ m : Nat, m ≤ c.writes.length ∧ i = .int .i64 (m : Int) ∧ Own w.heap.size wr bv (headB t c.writes.length ++ (c.writes.take m).flatMap writeB) ∧ w.grownBy wr none) (fun _ i _ => c.writes.length - (intOf i).toNat)
    case atStart => exact ⟨0, by omega, rfl, by simpa using HH.out, hgW1⟩
    case round =>
      obtain ⟨m, hm, rfl, hb, hg⟩ := hrel
      clear f0 f1
      by_cases hlt : m < c.writes.length
      · have i1 : (m : Int) < (c.writes.length : Int) := by omega
        obtain ⟨b, o, rfl, hat⟩ := HW.out.at m hlt
        obtain ⟨vn, vk, vv, e1, e2, e3, e4, s1, s2, s3⟩ := hat
        have e1 := hg.cell e1 (by simp)
        have e2 := hg.cell e2 (by simp)
        have e3 := hg.cell e3 (by simp)
        have e4 := hg.cell e4 (by simp)
        have hP : writeE (c.writes.getD m noPlc) = 0 := by
          have := HK3.out c.writes[m] (List.getElem_mem hlt)
          rwa [show c.writes[m] = c.writes.getD m noPlc by simp [hlt]] at this
        have hT : (c.writes.take (m + 1)).flatMap writeB = (c.writes.take m).flatMap writeB ++ writeB (c.writes.getD m noPlc) := by
          rw [List.take_succ_eq_append_getElem hlt, List.flatMap_append, show c.writes[m] = c.writes.getD m noPlc by simp [hlt]]
          simp
        have hsz : ((c.writes.take m).flatMap writeB).length ≤ 59 * m := by
          have := (writes_size (c.writes.take m) (fun x hx => HK3.out x (List.mem_of_mem_take hx))).2
          rw [List.length_take, Nat.min_eq_left hm] at this
          exact this
        have hhl := headB_len t c.writes.length
        obtain ⟨p1, p2, p3⟩ := (writeE_iff _).1 hP
        have hv32 : (c.writes.getD m noPlc).value.length ≤ 32 := by
          by_cases hgo : (c.writes.getD m noPlc).gone = true
          · rw [if_pos hgo] at p3; rw [p3]; simp
          · rw [if_neg hgo] at p3; exact p3
        have HT : Hid (headB t c.writes.length ++ (c.writes.take (m + 1)).flatMap writeB = headB t c.writes.length ++ (c.writes.take m).flatMap writeB ++ lenAnd (c.writes.getD m noPlc).name ++ lenAnd (c.writes.getD m noPlc).key ++ valueB (c.writes.getD m noPlc)) := by
          show _ = _
          rw [hT, writeB]; simp only [List.append_assoc]
        generalize c.writes.getD m noPlc = P at *
        obtain ⟨na, nc, rfl⟩ := s1.shape
        obtain ⟨ka, kc, rfl⟩ := s2.shape
        obtain ⟨va, vc, rfl⟩ := s3.shape
        obtain ⟨W2, HWb, hgA2, B2⟩ := alloc_namedT wr (.cells #[.slice na P.name.length nc, .slice ka P.key.length kc, .bool P.gone, .slice va P.value.length vc] 48)
        obtain ⟨X, hX⟩ : ∃ X, X = headB t c.writes.length ++ (c.writes.take m).flatMap writeB := ⟨_, rfl⟩
        have hXl : X.length ≤ 4 + 59 * m := by rw [hX, List.length_append]; omega
        rw [← hX] at hb HT
        have l1 := lenAnd_len P.name
        have l2 := lenAnd_len P.key
        obtain ⟨X1, hX1⟩ : ∃ X1, X1 = X ++ lenAnd P.name := ⟨_, rfl⟩
        obtain ⟨X2, hX2⟩ : ∃ X2, X2 = X1 ++ lenAnd P.key := ⟨_, rfl⟩
        have hX1l : X1.length ≤ 100000 := by rw [hX1, List.length_append]; omega
        have hX2l : X2.length ≤ 200000 := by rw [hX2, List.length_append]; omega
        have AN : Hid (∀ w' x, w.grownBy w' none → Own w.heap.size w' x X → Calls Tryd.prog 33 #[x, .slice na P.name.length nc] w' fun e w'' => ∃ v', e = .returned v' ∧ Own w.heap.size w'' v' X1 ∧ w.grownBy w'' none ∧ StaysT w' w'') := fun w' x h1 h2 => by rw [hX1]; exact appendText_any w w' x _ X P.name h1 h2 s1 (by omega) (by omega)
        have AK : Hid (∀ w' x, w.grownBy w' none → Own w.heap.size w' x X1 → Calls Tryd.prog 33 #[x, .slice ka P.key.length kc] w' fun e w'' => ∃ v', e = .returned v' ∧ Own w.heap.size w'' v' X2 ∧ w.grownBy w'' none ∧ StaysT w' w'') := fun w' x h1 h2 => by rw [hX2]; exact appendText_any w w' x _ X1 P.key h1 h2 s2 (by omega) (by omega)
        have AV : Hid (∀ w' x, w.grownBy w' none → Own w.heap.size w' x X2 → Calls Tryd.prog 33 #[x, .slice va P.value.length vc] w' fun e w'' => ∃ v', e = .returned v' ∧ Own w.heap.size w'' v' (X2 ++ lenAnd P.value) ∧ w.grownBy w'' none ∧ StaysT w' w'') := fun w' x h1 h2 => appendText_any w w' x _ X2 P.value h1 h2 s3 (by omega) (by omega)
        rw [← hX1, ← hX2] at HT
        obtain ⟨bva, bvn, bvc, rfl⟩ := Own.anyT hb
        have HB : Hid (Own w.heap.size W2 (.slice bva bvn bvc) X) := hb.grownNone hgA2
        have hgW2 := grown_trans hg hgA2
        obtain ⟨⟨q0, q1, q2, q3⟩, _⟩ := quad_room (grown_refl W2 none) B2.out
        clear hX hX1 hX2 hb s1 s2 s3 hT hP p3
        go_upto_region 8 with fail
        rw [← HWb.out]
        clear e1 e2 e3 e4
        go_wp2_with fail
        refine (AN.out _ _ hgW2 HB.out).mono ?_
        rintro e w3 ⟨v3, rfl, h3, hg3, o3⟩
        obtain ⟨a3, n3, c3, rfl⟩ := Own.anyT h3
        have B3 := o3 _ _ _ _ B2.out wrT5
        clear q0 q1 q2 q3
        obtain ⟨⟨q0, q1, q2, q3⟩, _⟩ := quad_room (grown_refl w3 none) B3
        have HB3 : Hid (w3.heap[wr.heap.size]? = some (.cells #[.slice na P.name.length nc, .slice ka P.key.length kc, .bool P.gone, .slice va P.value.length vc] 48)) := B3
        clear o3 B3
        go_wp2_with fail
        refine (AK.out _ _ hg3 h3).mono ?_
        rintro e w4 ⟨v4, rfl, h4, hg4, o4⟩
        obtain ⟨a4, n4, c4, rfl⟩ := Own.anyT h4
        have B4 := o4 _ _ _ _ HB3.out wrT5
        clear q0 q1 q2 q3
        obtain ⟨⟨q0, q1, q2, q3⟩, _⟩ := quad_room (grown_refl w4 none) B4
        have H4 : Hid (Own w.heap.size w4 (.slice a4 n4 c4) X2) := h4
        clear o4 B4 h3 h4 HB
        cases hgo : P.gone with
        | true =>
          rw [hgo] at q2
          have hV : valueB P = [255] := by rw [valueB, if_pos hgo]
          rw [hV] at HT
          obtain ⟨W5, HW5, hgA5, B5⟩ := alloc_namedT w4 (.cells #[.int .u8 255] 5)
          have s5 : Hid (SliceIs W5 (.slice (some ⟨w4.heap.size, 0, none⟩) 1 1) [255]) := by
            show SliceIs _ _ _
            rw [HW5.out]; exact one_slice w4 255 5
          have H5 : Hid (Own w.heap.size W5 (.slice a4 n4 c4) X2) := H4.out.grownNone hgA5
          have hgW5 := grown_trans hg4 hgA5
          have hsz5 := hgW5.size
          clear hgo hV
          go_wp2_with (at_builtin; rw [← HW5.out]; refine wpList_append_bytes rfl _ _ rfl w.heap.size (.slice a4 n4 c4) X2 rfl H5.out (some ⟨w4.heap.size, 0, none⟩) 1 1 [255] rfl s5.out ?_ hsz5 ?_; omega; intro v6 w6 ho6 hg6; have hgw6 : w.grownBy w6 none := grown_own hgW5 H5.out hg6; obtain ⟨a6, n6, c6, rfl⟩ := Own.anyT ho6)
          go_roundw
          case rel => exact ⟨m + 1, by omega, by go_num, by rw [HT.out]; exact ho6, hgw6⟩
          case measure => simp [intOf]; omega
        | false =>
          rw [hgo] at q2
          have hV : valueB P = lenAnd P.value := by rw [valueB, if_neg (by simp [hgo])]
          rw [hV] at HT
          clear hgo hV
          go_wp2_with fail
          refine (AV.out _ _ hg4 H4.out).mono ?_
          rintro e w5 ⟨v5, rfl, h5, hg5, _⟩
          go_wp2_with fail
          go_roundw
          case rel => exact ⟨m + 1, by omega, by go_num, by rw [HT.out]; exact h5, hg5⟩
          case measure => simp [intOf]; omega
      · obtain rfl : m = c.writes.length := by omega
        have i1 : ¬ (c.writes.length : Int) < (c.writes.length : Int) := by omega
        rw [List.take_length, ← HE.out] at hb
        obtain ⟨bva, bvn, bvc, rfl⟩ := Own.anyT hb
        have HB : Hid (Own w.heap.size wr (.slice bva bvn bvc) G) := hb
        clear hb
        go_wp2
        go_ret2
        exact ⟨_, rfl, HB.out.slice, hg⟩
  · have hE : encF c = [] := by rw [encF, if_neg hz]
    rw [hE]
    generalize commitE c = E at *
    have hz' : (E != 0) = true := by simpa using hz
    clear hz hE hv hl
    go_enter Tryd.func19, Tryd.ntmps19
    go_upto_region 1 with fail
    rw [← HW0.out]
    go_wp2_with fail
    refine CF.out.mono ?_
    rintro e w1 ⟨rfl, hg1⟩
    go_wp2
    go_ret2
    exact ⟨_, rfl, sliceIs_nil _, grown_trans hg0 hg1⟩
end Go.Proofs.YtkheombfjgjedacDoor
