/-
  Texts of this proof, joined: RLenAnd, RCmtB.
-/
import Derived.Test.YtkheombfjgjedaaDoorRTape1
/-
  The document's answer: lengthAnd.
-/
namespace Go.Proofs.YtkheombfjgjedaaDoor
open Go.RowKit
/-- Bytes behind their length. -/
theorem lengthAnd_any (w : World) (v : Value) (p : List UInt8) (hv : SliceIs w v p) (hl : p.length ≤ 100000) :
    Calls Tryd.prog 27 #[v] w fun e w' => ∃ v', e = .returned v' ∧ Own w.heap.size w' v' (lenAnd p) ∧ w.grownBy w' none := by
  obtain ⟨a, cap, rfl⟩ := hv.shape
  obtain ⟨x, hx⟩ : ∃ x : Int, x = ((UInt8.ofNat p.length).toNat : Int) := ⟨_, rfl⟩
  obtain ⟨W0, HW0, hg0, B0⟩ := alloc_named4 w (.cells #[.int .u8 x] 5)
  have s1 : SliceIs W0 (.slice (some ⟨w.heap.size, 0, none⟩) 1 1) [UInt8.ofNat p.length] := by
    rw [HW0.out, hx]; exact one_slice w _ 5
  have JN : Hid (Calls Tryd.prog 17 #[.slice (some ⟨w.heap.size, 0, none⟩) 1 1, .slice a p.length cap] W0 fun e w' => ∃ v', e = .returned v' ∧ Own W0.heap.size w' v' (lenAnd p) ∧ W0.grownBy w' none) := joined_gen W0 _ _ _ _ s1 (hv.grown hg0) (by simp; omega)
  have hcv : IntKind.u8.wrap (p.length : Int) = x := by
    rw [hx]; simp [IntKind.wrap_u8]
  have hsz := hg0.size
  clear hx s1 hv
  go_enter Tryd.func27, Tryd.ntmps27
  go_wp2_with fail
  rw [← HW0.out]
  refine JN.out.mono ?_
  rintro e w1 ⟨v1, rfl, h1, hg1⟩
  go_wp2
  go_ret
  exact ⟨_, rfl, own_mono h1 hsz, grown_trans hg0 hg1⟩
end Go.Proofs.YtkheombfjgjedaaDoor

/-
  The document's answer: CommitBytes.
-/
namespace Go.Proofs.YtkheombfjgjedaaDoor
open Go.RowKit
set_option maxRecDepth 100000 in
set_option maxHeartbeats 2000000 in
theorem commitBytes_any (w : World) (v : Value) (c : Cmt) (hv : CommitIs w v c) (hl : FitsW c.writes) :
    Calls Tryd.prog 16 #[v] w fun e w' => ∃ x, e = .returned (.tuple #[x, .int .i64 (commitE c)]) ∧ SliceIs w' x (encF c) ∧ w.grownBy w' none := by
  obtain ⟨a, cap, rfl⟩ := hv.agg
  obtain ⟨W0, HW0, hg0, B0⟩ := alloc_named4 w (.cells #[.int .i64 c.turn, .slice a c.writes.length cap] 27)
  obtain ⟨c0, c1, _, _⟩ := pair_room (grown_refl W0 none) B0.out
  have CF : Hid (Calls Tryd.prog 26 #[.agg #[.int .i64 c.turn, .slice a c.writes.length cap]] W0 fun e w' => e = .returned (.int .i64 (commitE c)) ∧ W0.grownBy w' none) := commitFault_any W0 _ c (hv.grown hg0) hl
  have HW : Hid (WritesIs W0 (.slice a c.writes.length cap) c.writes) := hv.writes.2.grown hg0
  have hlen := hl.len
  by_cases hz : commitE c = 0
  · obtain ⟨k1, k2, k3⟩ := (commit_iff c).1 hz
    have HK3 : Hid (∀ x ∈ c.writes, writeE x = 0) := k3
    have HE : Hid (encF c = headB c.turn.toNat c.writes.length ++ c.writes.flatMap writeB) := by show _ = _; rw [encF, if_pos hz, commitB]
    rw [hz] at CF ⊢
    obtain ⟨t, ht⟩ : ∃ t : Nat, c.turn = (t : Int) := ⟨c.turn.toNat, by omega⟩
    have hN : c.turn.toNat = t := by omega
    rw [hN] at HE
    have t1 : t ≤ 1048576 := by omega
    obtain ⟨G, hG⟩ : ∃ G, G = encF c := ⟨_, rfl⟩
    rw [← hG] at HE ⊢
    rw [ht] at c0 CF HW0 ⊢
    clear hz hv hl k3 hG k1 ht B0
    go_enter Tryd.func16, Tryd.ntmps16
    go_upto_region 1 with fail
    rw [← HW0.out]
    go_wp2_with fail
    refine CF.out.mono ?_
    rintro e w1 ⟨rfl, hg1⟩
    have d0 := hg1.cell c0 (by simp)
    have d1 := hg1.cell c1 (by simp)
    obtain ⟨W1, HW1, hgA1, B1⟩ := alloc_named4 w1 (.cells #[.int .u8 ((t : Int) / 65536), .int .u8 ((t : Int) / 256 % 256), .int .u8 ((t : Int) % 256), .int .u8 (c.writes.length : Int)] 5)
    have HH : Hid (Own w.heap.size W1 (.slice (some ⟨w1.heap.size, 0, none⟩) 4 4) (headB t c.writes.length)) := by
      have h1 := own_new w.heap.size w1 (headB t c.writes.length) (grown_trans hg0 hg1).size (by unfold maxLen; rw [headB_len]; omega)
      have e : bytesOf (headB t c.writes.length) = #[.int .u8 ((t : Int) / 65536), .int .u8 ((t : Int) / 256 % 256), .int .u8 ((t : Int) % 256), .int .u8 (c.writes.length : Int)] := by
        have e0 : (((UInt8.ofNat (t / 65536)).toNat : Nat) : Int) = (t : Int) / 65536 := by simp; omega
        have e1 : (((UInt8.ofNat (t / 256 % 256)).toNat : Nat) : Int) = (t : Int) / 256 % 256 := by simp
        have e2 : (((UInt8.ofNat (t % 256)).toNat : Nat) : Int) = (t : Int) % 256 := by simp
        have e3 : (((UInt8.ofNat c.writes.length).toNat : Nat) : Int) = (c.writes.length : Int) := by simp; omega
        simp only [headB, bytesOf, List.map_cons, List.map_nil, e0, e1, e2, e3]
      rw [e] at h1
      rw [HW1.out]
      exact h1
    go_upto_region 5 with fail
    rw [← HW1.out]
    have hgW1 := grown_trans hg0 (grown_trans hg1 hgA1)
    have f0 := hgA1.cell d0 (by simp)
    have f1 := hgA1.cell d1 (by simp)
    have HW2 : Hid (WritesIs W1 (.slice a c.writes.length cap) c.writes) := HW.out.grown (grown_trans hg1 hgA1)
    clear c0 c1 d0 d1
    go_wp2_with fail
    go_loopw [5, 6] (fun bv i wr => ∃ m : Nat, m ≤ c.writes.length ∧ i = .int .i64 (m : Int) ∧ SliceIs wr bv (headB t c.writes.length ++ (c.writes.take m).flatMap writeB) ∧ W1.grownBy wr none) (fun _ i _ => c.writes.length - (intOf i).toNat)
    case atStart => exact ⟨0, by omega, rfl, by simpa using HH.out.slice, grown_refl _ _⟩
    case round =>
      obtain ⟨m, hm, rfl, hb, hg⟩ := hrel
      have d0 := hg.cell f0 (by simp)
      have d1 := hg.cell f1 (by simp)
      by_cases hlt : m < c.writes.length
      · have i1 : (m : Int) < (c.writes.length : Int) := by omega
        obtain ⟨b, o, rfl, hat⟩ := HW2.out.at m hlt
        obtain ⟨vn, vk, vv, e1, e2, e3, e4, s1, s2, s3⟩ := hat.grown hg
        have hP : writeE (c.writes.getD m noPlc) = 0 := by
          have := HK3.out c.writes[m] (List.getElem_mem hlt)
          rwa [show c.writes[m] = c.writes.getD m noPlc by simp [hlt]] at this
        have hT : (c.writes.take (m + 1)).flatMap writeB = (c.writes.take m).flatMap writeB ++ writeB (c.writes.getD m noPlc) := by
          rw [List.take_succ_eq_append_getElem hlt, List.flatMap_append, show c.writes[m] = c.writes.getD m noPlc by simp [hlt]]
          simp
        have hsz : ((c.writes.take m).flatMap writeB).length ≤ 59 * m := by
          have := (writes_size (c.writes.take m) (fun x hx => HK3.out x (List.mem_of_mem_take hx))).2
          rw [List.length_take, Nat.min_eq_left hm] at this
          exact this
        have hhl := headB_len t c.writes.length
        obtain ⟨p1, p2, p3⟩ := (writeE_iff _).1 hP
        have hv32 : (c.writes.getD m noPlc).value.length ≤ 32 := by
          by_cases hgo : (c.writes.getD m noPlc).gone = true
          · rw [if_pos hgo] at p3; rw [p3]; simp
          · rw [if_neg hgo] at p3; exact p3
        have HT : Hid (headB t c.writes.length ++ (c.writes.take (m + 1)).flatMap writeB = headB t c.writes.length ++ (c.writes.take m).flatMap writeB ++ lenAnd (c.writes.getD m noPlc).name ++ lenAnd (c.writes.getD m noPlc).key ++ valueB (c.writes.getD m noPlc)) := by
          show _ = _
          rw [hT, writeB]; simp only [List.append_assoc]
        generalize c.writes.getD m noPlc = P at *
        obtain ⟨na, nc, rfl⟩ := s1.shape
        obtain ⟨ka, kc, rfl⟩ := s2.shape
        obtain ⟨va, vc, rfl⟩ := s3.shape
        obtain ⟨W2, HWb, hgA2, B2⟩ := alloc_named4 wr (.cells #[.slice na P.name.length nc, .slice ka P.key.length kc, .bool P.gone, .slice va P.value.length vc] 48)
        obtain ⟨X, hX⟩ : ∃ X, X = headB t c.writes.length ++ (c.writes.take m).flatMap writeB := ⟨_, rfl⟩
        have hXl : X.length ≤ 4 + 59 * m := by rw [hX, List.length_append]; omega
        rw [← hX] at hb HT
        obtain ⟨Y, hY⟩ : ∃ Y, Y = headB t c.writes.length ++ (c.writes.take (m + 1)).flatMap writeB := ⟨_, rfl⟩
        rw [← hY] at HT
        have HY : Hid (Y = headB t c.writes.length ++ (c.writes.take (m + 1)).flatMap writeB) := hY
        have LN : Hid (∀ w', wr.grownBy w' none → Calls Tryd.prog 27 #[.slice na P.name.length nc] w' fun e w'' => ∃ v', e = .returned v' ∧ Own w'.heap.size w'' v' (lenAnd P.name) ∧ w'.grownBy w'' none) := fun w' hg' => lengthAnd_any w' _ _ (s1.grown hg') (by omega)
        have LK : Hid (∀ w', wr.grownBy w' none → Calls Tryd.prog 27 #[.slice ka P.key.length kc] w' fun e w'' => ∃ v', e = .returned v' ∧ Own w'.heap.size w'' v' (lenAnd P.key) ∧ w'.grownBy w'' none) := fun w' hg' => lengthAnd_any w' _ _ (s2.grown hg') (by omega)
        have LV : Hid (∀ w', wr.grownBy w' none → Calls Tryd.prog 27 #[.slice va P.value.length vc] w' fun e w'' => ∃ v', e = .returned v' ∧ Own w'.heap.size w'' v' (lenAnd P.value) ∧ w'.grownBy w'' none) := fun w' hg' => lengthAnd_any w' _ _ (s3.grown hg') (by omega)
        have l1 := lenAnd_len P.name
        have l2 := lenAnd_len P.key
        have JN : Hid (∀ w' x y (B C : List UInt8), SliceIs w' x B → SliceIs w' y C → B.length ≤ 10000 → C.length ≤ 10000 → Calls Tryd.prog 17 #[x, y] w' fun e w'' => ∃ v', e = .returned v' ∧ SliceIs w'' v' (B ++ C) ∧ w'.grownBy w'' none) := fun w' x y B C h1 h2 h3 h4 => (joined_gen w' x y B C h1 h2 (by omega)).mono (by rintro e w'' ⟨v', rfl, h, hg'⟩; exact ⟨v', rfl, h.slice, hg'⟩)
        obtain ⟨bva, bvc, rfl⟩ := hb.shape
        have HB : Hid (SliceIs wr (.slice bva X.length bvc) X) := hb
        have hvl : (valueB P).length ≤ 100 := by
          unfold valueB
          split
          · simp
          · rw [lenAnd_len]; omega
        clear hX hY hb hat s1 s2 s3 hT hP p3
        go_upto_region 9 with fail
        rw [← HWb.out]
        obtain ⟨⟨q0, q1, q2, q3⟩, _⟩ := quad_room (grown_refl W2 none) B2.out
        go_wp2_with fail
        refine (LN.out _ hgA2).mono ?_
        rintro e w3 ⟨v3, rfl, h3, hg3⟩
        have HN3 : Hid (SliceIs w3 v3 (lenAnd P.name)) := h3.slice
        have hgr3 := grown_trans hgA2 hg3
        clear h3 q0 q1 q2 q3
        obtain ⟨⟨q0, q1, q2, q3⟩, _⟩ := quad_room hg3 B2.out
        go_wp2_with fail
        refine (LK.out _ hgr3).mono ?_
        rintro e w4 ⟨v4, rfl, h4, hg4⟩
        have HK4 : Hid (SliceIs w4 v4 (lenAnd P.key)) := h4.slice
        have hgr4 := grown_trans hgr3 hg4
        clear h4 q0 q1 q2 q3
        obtain ⟨⟨q0, q1, q2, q3⟩, _⟩ := quad_room (grown_trans hg3 hg4) B2.out
        go_wp2_with fail
        refine (LV.out _ hgr4).mono ?_
        rintro e w5 ⟨v5, rfl, h5, hg5⟩
        have HV5 : Hid (SliceIs w5 v5 (lenAnd P.value)) := h5.slice
        have hgr5 := grown_trans hgr4 hg5
        clear h5 q0 q1 q2 q3
        obtain ⟨⟨q0, q1, q2, q3⟩, _⟩ := quad_room (grown_trans hg3 (grown_trans hg4 hg5)) B2.out
        cases hgo : P.gone with
        | true =>
          obtain ⟨W6, HW6, hg6, _⟩ := alloc_named4 w5 (.cells #[.int .u8 255] 5)
          have HVL : Hid (SliceIs W6 (.slice (some ⟨w5.heap.size, 0, none⟩) 1 1) (valueB P)) := by
            have h : valueB P = [255] := by rw [valueB, if_pos hgo]
            rw [h, HW6.out]; exact one_slice w5 255 5
          rw [hgo] at q2
          go_upto_region 14 with fail
          rw [← HW6.out]
          have hgr6 := grown_trans hgr5 hg6
          go_wp2_with fail
          refine (JN.out _ _ _ _ _ (HB.out.grown hgr6) (HN3.out.grown (grown_trans hg4 (grown_trans hg5 hg6))) (by omega) (by omega)).mono ?_
          rintro e w7 ⟨v7, rfl, h7, hg7⟩
          have H7 : Hid (SliceIs w7 v7 (X ++ lenAnd P.name)) := h7
          clear h7
          go_wp2_with fail
          refine (JN.out _ _ _ _ _ H7.out (HK4.out.grown (grown_trans hg5 (grown_trans hg6 hg7))) (by rw [List.length_append]; omega) (by omega)).mono ?_
          rintro e w8 ⟨v8, rfl, h8, hg8⟩
          have H8 : Hid (SliceIs w8 v8 (X ++ lenAnd P.name ++ lenAnd P.key)) := h8
          clear h8
          go_wp2_with fail
          refine (JN.out _ _ _ _ _ H8.out (HVL.out.grown (grown_trans hg7 hg8)) (by rw [List.length_append, List.length_append]; omega) (by omega)).mono ?_
          rintro e w9 ⟨v9, rfl, h9, hg9⟩
          have hgw := grown_trans hg (grown_trans hgr6 (grown_trans hg7 (grown_trans hg8 hg9)))
          go_wp2_with fail
          go_roundw
          case rel => exact ⟨m + 1, by omega, by go_num, by rw [← HY.out, HT.out]; exact h9, hgw⟩
          case measure => simp [intOf]; omega
        | false =>
          have HVL : Hid (SliceIs w5 v5 (valueB P)) := by
            have h : valueB P = lenAnd P.value := by rw [valueB, if_neg (by rw [hgo]; simp)]
            rw [h]; exact HV5.out
          have hg6 := grown_refl w5 none
          rw [hgo] at q2
          go_upto_region 14 with fail
          have hgr6 := grown_trans hgr5 hg6
          go_wp2_with fail
          refine (JN.out _ _ _ _ _ (HB.out.grown hgr6) (HN3.out.grown (grown_trans hg4 (grown_trans hg5 hg6))) (by omega) (by omega)).mono ?_
          rintro e w7 ⟨v7, rfl, h7, hg7⟩
          have H7 : Hid (SliceIs w7 v7 (X ++ lenAnd P.name)) := h7
          clear h7
          go_wp2_with fail
          refine (JN.out _ _ _ _ _ H7.out (HK4.out.grown (grown_trans hg5 (grown_trans hg6 hg7))) (by rw [List.length_append]; omega) (by omega)).mono ?_
          rintro e w8 ⟨v8, rfl, h8, hg8⟩
          have H8 : Hid (SliceIs w8 v8 (X ++ lenAnd P.name ++ lenAnd P.key)) := h8
          clear h8
          go_wp2_with fail
          refine (JN.out _ _ _ _ _ H8.out (HVL.out.grown (grown_trans hg7 hg8)) (by rw [List.length_append, List.length_append]; omega) (by omega)).mono ?_
          rintro e w9 ⟨v9, rfl, h9, hg9⟩
          have hgw := grown_trans hg (grown_trans hgr6 (grown_trans hg7 (grown_trans hg8 hg9)))
          go_wp2_with fail
          go_roundw
          case rel => exact ⟨m + 1, by omega, by go_num, by rw [← HY.out, HT.out]; exact h9, hgw⟩
          case measure => simp [intOf]; omega
      · obtain rfl : m = c.writes.length := by omega
        rw [List.take_length, ← HE.out] at hb
        clear hlt
        go_wp2
        go_ret2
        exact ⟨_, rfl, hb, grown_trans hgW1 hg⟩
  · have hE : encF c = [] := by rw [encF, if_neg hz]
    rw [hE]
    have hz' : (commitE c != 0) = true := by simpa using hz
    generalize commitE c = z at *
    clear hz hv hl
    go_enter Tryd.func16, Tryd.ntmps16
    go_upto_region 1 with fail
    rw [← HW0.out]
    go_wp2_with fail
    refine CF.out.mono ?_
    rintro e w1 ⟨rfl, hg1⟩
    go_wp2
    go_ret2
    exact ⟨_, rfl, sliceIs_nil _, grown_trans hg0 hg1⟩
end Go.Proofs.YtkheombfjgjedaaDoor
