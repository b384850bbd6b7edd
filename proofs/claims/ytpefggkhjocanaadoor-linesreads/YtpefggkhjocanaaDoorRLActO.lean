/-
  The document's answer: lineAct, sync and start (gen10line.py writes this text).
-/
import Derived.Test.YtpefggkhjocanaaDoorRLActF
namespace Go.Proofs.YtpefggkhjocanaaDoor
open Go.RowKit
set_option maxRecDepth 100000 in
set_option maxHeartbeats 2000000 in
theorem lineAct_sync (S : ByteArray) (w : World) (hl : S.size ≤ 2000000) (hw : wordsF (tl S) = [wSync]) : LineOK S w ⟨2, 0, 0, []⟩ := by
  unfold LineOK
  obtain ⟨W0, HW0, hg0, R0⟩ := alloc_namedR w (.cells #[.int .i64 0, .int .i64 0, .int .i64 0, .slice none 0 0] 36)
  have WO : Hid (Calls Tryd.prog 41 #[.string S] W0 fun e w' => ∃ x, e = .returned x ∧ WordsIs w' x (wordsF (tl S)) ∧ W0.grownBy w' none) := wordsOf_any S W0 hl
  have HNE : Hid (wordsF (tl S) ≠ []) := wordsF_ne _
  have ht : (wordsF (tl S)).getD 0 [] = wSync := by rw [hw]; rfl
  have hn : (wordsF (tl S)).length = 1 := by rw [hw]; rfl
  clear hw
  generalize wordsF (tl S) = ws at *
  have hlen : 0 < ws.length := by omega
  obtain ⟨R, hR⟩ : ∃ R, R = w.heap.size := ⟨_, rfl⟩
  have HRw : Hid (w.heap.size ≤ R) := by show _ ≤ _; omega
  rw [← hR] at R0
  go_enter Tryd.func28, Tryd.ntmps28
  go_upto_region 1 with fail
  rw [← HW0.out, ← hR]
  clear hR HW0
  go_wp2_with fail
  refine WO.out.mono ?_
  rintro e w1 ⟨x, rfl, hwd, hg1⟩
  obtain ⟨g, gc, rfl, hx⟩ := id hwd
  have hglt := hwd.lt HNE.out
  have R1 := pair_old hg1 R0.out
  have hRlt := (Array.getElem?_eq_some_iff.1 R1).1
  obtain ⟨W2, HW2, hg2, B2⟩ := alloc_namedR w1 (.cells #[.int .i64 0, .int .i64 0, .int .i64 0, .slice none 0 0] 36)
  have R2 : Hid (W2.heap[R]? = some (.cells #[.int .i64 0, .int .i64 0, .int .i64 0, .slice none 0 0] 36)) := pair_old hg2 R1
  have hgw2 := grown_trans hg0 (grown_trans hg1 hg2)
  obtain ⟨⟨z0, z1, z2, z3⟩, k0, k1, k2, k3, _⟩ := quad_room (grown_refl W2 none) B2.out
  obtain ⟨B, hB⟩ : ∃ B, B = w1.heap.size := ⟨_, rfl⟩
  have hwB : w.heap.size ≤ B := by have := (grown_trans hg0 hg1).size; omega
  have hRB : R ≠ B := by omega
  have hgB : g ≠ B := by omega
  rw [← hB] at B2 z0 z1 z2 z3 k0 k1 k2 k3
  have hx0 := hx 0 hlen
  have y0 := hg2.cell hx0 (by simp)
  have t1 : (textOf (ws.getD 0 [])).toList = [115, 121, 110, 99] := by rw [ht]; exact textOf_list _
  generalize textOf (ws.getD 0 []) = T at *
  rw [hn] at *
  clear hx hx0 hwd hlen ht hn
  have hgw3 : w.grownBy (W2.setCell ⟨B, 0, none⟩ (.int .i64 2)) none := grown_setNew hgw2 _ hwB _ _
  obtain ⟨W3, hW3⟩ : ∃ W3 : World, W3 = W2.setCell ⟨B, 0, none⟩ (.int .i64 2) := ⟨_, rfl⟩
  have HW3 : Hid (W3 = W2.setCell ⟨B, 0, none⟩ (.int .i64 2)) := hW3
  have BW : Hid (W3.heap[B]? = some (.cells #[.int .i64 2, .int .i64 0, .int .i64 0, .slice none 0 0] 36)) := by show _ = _; rw [hW3]; exact (quad_one B2.out _).1
  have RW : Hid (W3.heap[R]? = some (.cells #[.int .i64 0, .int .i64 0, .int .i64 0, .slice none 0 0] 36)) := by show _ = _; rw [hW3]; exact set_else R2.out hRB
  have x0 : W3.cell? ⟨g, 0, none⟩ = some (.string T) := by rw [hW3]; exact cell_else y0 hgB
  rw [← hW3] at hgw3
  have HP : Hid (PartIs 0 W3 (.slice none 0 0) []) := part_nil _
  have AF : Hid (Calls Tryd.prog 23 #[.agg #[.int .i64 2, .int .i64 0, .int .i64 0, .slice none 0 0]] W3 fun e w' => e = .returned (.int .i64 0) ∧ W3.grownBy w' none) := actFault_any W3 _ ⟨2, 0, 0, []⟩ ⟨_, rfl, sliceIs_nil _⟩ ⟨by decide, by decide, by decide, by decide⟩
  go_upto_region 3 with fail
  rw [← HW2.out, ← hB]
  clear hB HW2 hg2 hg1 WO R1 hglt hRlt hW3
  go_upto_region 5 with fail
  rw [← HW3.out]
  clear y0 z0 z1 z2 z3 k0 k1 k2 k3
  obtain ⟨⟨b0, b1, b2, b3⟩, _⟩ := quad_room (grown_refl W3 none) BW.out
  go_wp2_with fail
  refine AF.out.mono ?_
  rintro e w4 ⟨rfl, hg4⟩
  have hgw4 := grown_trans hgw3 hg4
  have RZ := pair_old hg4 RW.out
  clear b0 b1 b2 b3
  obtain ⟨⟨b0, b1, b2, b3⟩, _⟩ := quad_room hg4 BW.out
  obtain ⟨⟨r0, r1, r2, r3⟩, s0, s1, s2, s3, _⟩ := quad_room (grown_refl w4 none) RZ
  obtain ⟨_, q0, q1, q2, q3⟩ := quad_set RZ (.int .i64 2) (.int .i64 0) (.int .i64 0) (.slice none 0 0)
  have HQ : Hid (w4.heap[R]? = some (.cells #[.int .i64 0, .int .i64 0, .int .i64 0, .slice none 0 0] 36)) := RZ
  clear RZ
  go_wp2
  obtain ⟨qb, _⟩ := quad_set HQ.out (.int .i64 2) (.int .i64 0) (.int .i64 0) (.slice none 0 0)
  obtain ⟨⟨p0, p1, p2, p3⟩, _⟩ := quad_room (grown_refl _ none) qb
  have hgr := grown_set (grown_set (grown_set (grown_set (grown_refl w4 (some R)) 0 (.int .i64 2)) 1 (.int .i64 0)) 2 (.int .i64 0)) 3 (.slice none 0 0)
  refine bodyPost_ret (v := .agg #[.int .i64 2, .int .i64 0, .int .i64 0, .slice none 0 0]) (by simp [results, Tryd.results28, go_sem, p0, p1, p2, p3]) rfl ?_
  exact ⟨_, rfl, (HP.out.keptT hg4 (.inl rfl)).keptT hgr (.inr ⟨R, _, _, _, rfl, Nat.zero_le _, HQ.out, acT5⟩), grown_setNew (grown_setNew (grown_setNew (grown_setNew hgw4 _ HRw.out _ _) _ HRw.out _ _) _ HRw.out _ _) _ HRw.out _ _⟩
set_option maxRecDepth 100000 in
set_option maxHeartbeats 2000000 in
theorem lineAct_start (S : ByteArray) (w : World) (hl : S.size ≤ 2000000) (hw : wordsF (tl S) = [wStart]) : LineOK S w ⟨4, 0, 0, []⟩ := by
  unfold LineOK
  obtain ⟨W0, HW0, hg0, R0⟩ := alloc_namedR w (.cells #[.int .i64 0, .int .i64 0, .int .i64 0, .slice none 0 0] 36)
  have WO : Hid (Calls Tryd.prog 41 #[.string S] W0 fun e w' => ∃ x, e = .returned x ∧ WordsIs w' x (wordsF (tl S)) ∧ W0.grownBy w' none) := wordsOf_any S W0 hl
  have HNE : Hid (wordsF (tl S) ≠ []) := wordsF_ne _
  have ht : (wordsF (tl S)).getD 0 [] = wStart := by rw [hw]; rfl
  have hn : (wordsF (tl S)).length = 1 := by rw [hw]; rfl
  clear hw
  generalize wordsF (tl S) = ws at *
  have hlen : 0 < ws.length := by omega
  obtain ⟨R, hR⟩ : ∃ R, R = w.heap.size := ⟨_, rfl⟩
  have HRw : Hid (w.heap.size ≤ R) := by show _ ≤ _; omega
  rw [← hR] at R0
  go_enter Tryd.func28, Tryd.ntmps28
  go_upto_region 1 with fail
  rw [← HW0.out, ← hR]
  clear hR HW0
  go_wp2_with fail
  refine WO.out.mono ?_
  rintro e w1 ⟨x, rfl, hwd, hg1⟩
  obtain ⟨g, gc, rfl, hx⟩ := id hwd
  have hglt := hwd.lt HNE.out
  have R1 := pair_old hg1 R0.out
  have hRlt := (Array.getElem?_eq_some_iff.1 R1).1
  obtain ⟨W2, HW2, hg2, B2⟩ := alloc_namedR w1 (.cells #[.int .i64 0, .int .i64 0, .int .i64 0, .slice none 0 0] 36)
  have R2 : Hid (W2.heap[R]? = some (.cells #[.int .i64 0, .int .i64 0, .int .i64 0, .slice none 0 0] 36)) := pair_old hg2 R1
  have hgw2 := grown_trans hg0 (grown_trans hg1 hg2)
  obtain ⟨⟨z0, z1, z2, z3⟩, k0, k1, k2, k3, _⟩ := quad_room (grown_refl W2 none) B2.out
  obtain ⟨B, hB⟩ : ∃ B, B = w1.heap.size := ⟨_, rfl⟩
  have hwB : w.heap.size ≤ B := by have := (grown_trans hg0 hg1).size; omega
  have hRB : R ≠ B := by omega
  have hgB : g ≠ B := by omega
  rw [← hB] at B2 z0 z1 z2 z3 k0 k1 k2 k3
  have hx0 := hx 0 hlen
  have y0 := hg2.cell hx0 (by simp)
  have t1 : (textOf (ws.getD 0 [])).toList = [115, 116, 97, 114, 116] := by rw [ht]; exact textOf_list _
  generalize textOf (ws.getD 0 []) = T at *
  rw [hn] at *
  clear hx hx0 hwd hlen ht hn
  have hgw3 : w.grownBy (W2.setCell ⟨B, 0, none⟩ (.int .i64 4)) none := grown_setNew hgw2 _ hwB _ _
  obtain ⟨W3, hW3⟩ : ∃ W3 : World, W3 = W2.setCell ⟨B, 0, none⟩ (.int .i64 4) := ⟨_, rfl⟩
  have HW3 : Hid (W3 = W2.setCell ⟨B, 0, none⟩ (.int .i64 4)) := hW3
  have BW : Hid (W3.heap[B]? = some (.cells #[.int .i64 4, .int .i64 0, .int .i64 0, .slice none 0 0] 36)) := by show _ = _; rw [hW3]; exact (quad_one B2.out _).1
  have RW : Hid (W3.heap[R]? = some (.cells #[.int .i64 0, .int .i64 0, .int .i64 0, .slice none 0 0] 36)) := by show _ = _; rw [hW3]; exact set_else R2.out hRB
  have x0 : W3.cell? ⟨g, 0, none⟩ = some (.string T) := by rw [hW3]; exact cell_else y0 hgB
  rw [← hW3] at hgw3
  have HP : Hid (PartIs 0 W3 (.slice none 0 0) []) := part_nil _
  have AF : Hid (Calls Tryd.prog 23 #[.agg #[.int .i64 4, .int .i64 0, .int .i64 0, .slice none 0 0]] W3 fun e w' => e = .returned (.int .i64 0) ∧ W3.grownBy w' none) := actFault_any W3 _ ⟨4, 0, 0, []⟩ ⟨_, rfl, sliceIs_nil _⟩ ⟨by decide, by decide, by decide, by decide⟩
  go_upto_region 3 with fail
  rw [← HW2.out, ← hB]
  clear hB HW2 hg2 hg1 WO R1 hglt hRlt hW3
  go_upto_region 7 with fail
  rw [← HW3.out]
  clear y0 z0 z1 z2 z3 k0 k1 k2 k3
  obtain ⟨⟨b0, b1, b2, b3⟩, _⟩ := quad_room (grown_refl W3 none) BW.out
  go_wp2_with fail
  refine AF.out.mono ?_
  rintro e w4 ⟨rfl, hg4⟩
  have hgw4 := grown_trans hgw3 hg4
  have RZ := pair_old hg4 RW.out
  clear b0 b1 b2 b3
  obtain ⟨⟨b0, b1, b2, b3⟩, _⟩ := quad_room hg4 BW.out
  obtain ⟨⟨r0, r1, r2, r3⟩, s0, s1, s2, s3, _⟩ := quad_room (grown_refl w4 none) RZ
  obtain ⟨_, q0, q1, q2, q3⟩ := quad_set RZ (.int .i64 4) (.int .i64 0) (.int .i64 0) (.slice none 0 0)
  have HQ : Hid (w4.heap[R]? = some (.cells #[.int .i64 0, .int .i64 0, .int .i64 0, .slice none 0 0] 36)) := RZ
  clear RZ
  go_wp2
  obtain ⟨qb, _⟩ := quad_set HQ.out (.int .i64 4) (.int .i64 0) (.int .i64 0) (.slice none 0 0)
  obtain ⟨⟨p0, p1, p2, p3⟩, _⟩ := quad_room (grown_refl _ none) qb
  have hgr := grown_set (grown_set (grown_set (grown_set (grown_refl w4 (some R)) 0 (.int .i64 4)) 1 (.int .i64 0)) 2 (.int .i64 0)) 3 (.slice none 0 0)
  refine bodyPost_ret (v := .agg #[.int .i64 4, .int .i64 0, .int .i64 0, .slice none 0 0]) (by simp [results, Tryd.results28, go_sem, p0, p1, p2, p3]) rfl ?_
  exact ⟨_, rfl, (HP.out.keptT hg4 (.inl rfl)).keptT hgr (.inr ⟨R, _, _, _, rfl, Nat.zero_le _, HQ.out, acT5⟩), grown_setNew (grown_setNew (grown_setNew (grown_setNew hgw4 _ HRw.out _ _) _ HRw.out _ _) _ HRw.out _ _) _ HRw.out _ _⟩
end Go.Proofs.YtpefggkhjocanaaDoor
