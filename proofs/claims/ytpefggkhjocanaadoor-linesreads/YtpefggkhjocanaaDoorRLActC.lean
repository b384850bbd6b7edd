/-
  The document's answer: lineAct, crash (gen10line.py writes this text).
-/
import Derived.Test.YtpefggkhjocanaaDoorRLActF
namespace Go.Proofs.YtpefggkhjocanaaDoor
open Go.RowKit
theorem whole_range (x : List UInt8) : -9223372036854775808 ≤ wholeF x ∧ wholeF x ≤ 9223372036854775807 := by
  by_cases h : 0 ≤ wholeF x
  · have h0 := h
    obtain ⟨e, _⟩ := dec_whole h
    have h2 : wholeF x < 1000000 := by
      unfold wholeF at h0 ⊢
      by_cases c : x.length = 0 ∨ 6 < x.length ∨ (x.getD 0 0 = 48 ∧ 1 < x.length)
      · rw [if_pos c] at h0; omega
      · rw [if_neg c] at h0 ⊢
        by_cases d : x.all isDig = true
        · rw [if_pos d]
          have h1 := val_lt x.length x rfl d
          have h6 : x.length ≤ 6 := by omega
          have h3 : 10 ^ x.length ≤ 10 ^ 6 := Nat.pow_le_pow_right (by omega) h6
          have h4 : (10 : Nat) ^ 6 = 1000000 := rfl
          omega
        · rw [if_neg d] at h0; omega
    omega
  · have : wholeF x = -1 := by
      unfold wholeF at h ⊢
      split
      · rfl
      · rename_i c
        rw [if_neg c] at h
        split
        · rename_i d; rw [if_pos d] at h; omega
        · rfl
    omega
set_option maxRecDepth 100000 in
set_option maxHeartbeats 2000000 in
theorem lineAct_crash (S : ByteArray) (w : World) (hl : S.size ≤ 2000000) (x : List UInt8) (hw : wordsF (tl S) = [wCrash, x]) (hxl : x.length ≤ 2000000) : LineOK S w (if actE ⟨3, 0, wholeF x, []⟩ = 0 then ⟨3, 0, wholeF x, []⟩ else noAc) := by
  unfold LineOK
  obtain ⟨W0, HW0, hg0, R0⟩ := alloc_namedR w (.cells #[.int .i64 0, .int .i64 0, .int .i64 0, .slice none 0 0] 36)
  have WO : Hid (Calls Tryd.prog 41 #[.string S] W0 fun e w' => ∃ x, e = .returned x ∧ WordsIs w' x (wordsF (tl S)) ∧ W0.grownBy w' none) := wordsOf_any S W0 hl
  have HNE : Hid (wordsF (tl S) ≠ []) := wordsF_ne _
  have ht : (wordsF (tl S)).getD 0 [] = wCrash := by rw [hw]; rfl
  have ht1 : (wordsF (tl S)).getD 1 [] = x := by rw [hw]; rfl
  have hn : (wordsF (tl S)).length = 2 := by rw [hw]; rfl
  clear hw
  generalize wordsF (tl S) = ws at *
  have hlen : 0 < ws.length := by omega
  have WH : Hid (∀ W : World, Calls Tryd.prog 42 #[.string (textOf x)] W fun e w' => e = .returned (.int .i64 (wholeF x)) ∧ w' = W) := fun W => by
    have := whole_any (textOf x) W (by rw [tl_size, tl_text]; exact hxl)
    rw [tl_text] at this
    exact this
  have hq := whole_range x
  have AFG : Hid (∀ W : World, (Calls Tryd.prog 23 #[.agg #[.int .i64 3, .int .i64 0, .int .i64 (wholeF x), .slice none 0 0]] W fun e w' => e = .returned (.int .i64 (actE ⟨3, 0, wholeF x, []⟩)) ∧ W.grownBy w' none)) := fun W => actFault_any W _ ⟨3, 0, wholeF x, []⟩ ⟨_, rfl, sliceIs_nil _⟩ ⟨⟨by simp, by simp⟩, ⟨by simp, by simp⟩, hq, by simp⟩
  generalize actE ⟨3, 0, wholeF x, []⟩ = z at *
  obtain ⟨A, hA⟩ : ∃ A : Ac, A = if z = 0 then ⟨3, 0, wholeF x, []⟩ else noAc := ⟨_, rfl⟩
  rw [← hA]
  have HA0 : Hid (z = 0 → A = ⟨3, 0, wholeF x, []⟩) := fun h => by rw [hA, if_pos h]
  have HA1 : Hid (z ≠ 0 → A = noAc) := fun h => by rw [hA, if_neg h]
  clear hA
  obtain ⟨R, hR⟩ : ∃ R, R = w.heap.size := ⟨_, rfl⟩
  have HRw : Hid (w.heap.size ≤ R) := by show _ ≤ _; omega
  rw [← hR] at R0
  go_enter Tryd.func28, Tryd.ntmps28
  go_upto_region 1 with fail
  rw [← HW0.out, ← hR]
  clear hR HW0
  go_wp2_with fail
  refine WO.out.mono ?_
  rintro e w1 ⟨x, rfl, hwd, hg1⟩
  obtain ⟨g, gc, rfl, hx⟩ := id hwd
  have hglt := hwd.lt HNE.out
  have R1 := pair_old hg1 R0.out
  have hRlt := (Array.getElem?_eq_some_iff.1 R1).1
  obtain ⟨W2, HW2, hg2, B2⟩ := alloc_namedR w1 (.cells #[.int .i64 0, .int .i64 0, .int .i64 0, .slice none 0 0] 36)
  have R2 : Hid (W2.heap[R]? = some (.cells #[.int .i64 0, .int .i64 0, .int .i64 0, .slice none 0 0] 36)) := pair_old hg2 R1
  have hgw2 := grown_trans hg0 (grown_trans hg1 hg2)
  obtain ⟨⟨z0, z1, z2, z3⟩, k0, k1, k2, k3, _⟩ := quad_room (grown_refl W2 none) B2.out
  obtain ⟨B, hB⟩ : ∃ B, B = w1.heap.size := ⟨_, rfl⟩
  have hwB : w.heap.size ≤ B := by have := (grown_trans hg0 hg1).size; omega
  have hRB : R ≠ B := by omega
  have hgB : g ≠ B := by omega
  rw [← hB] at B2 z0 z1 z2 z3 k0 k1 k2 k3
  have hx0 := hx 0 hlen
  have hx1 := hx 1 (by omega)
  have y0 := hg2.cell hx0 (by simp)
  have y1 := hg2.cell hx1 (by simp)
  have t1 : (textOf (ws.getD 0 [])).toList = [99, 114, 97, 115, 104] := by rw [ht]; exact textOf_list _
  rw [ht1] at y1 hx1
  generalize textOf (ws.getD 0 []) = T at *
  generalize textOf x = T1 at *
  generalize wholeF x = q at *
  rw [hn] at *
  clear hx hx0 hx1 hwd hlen ht hn ht1
  have hgw3 : w.grownBy (W2.setCell ⟨B, 0, none⟩ (.int .i64 3)) none := grown_setNew hgw2 _ hwB _ _
  obtain ⟨W3, hW3⟩ : ∃ W3 : World, W3 = W2.setCell ⟨B, 0, none⟩ (.int .i64 3) := ⟨_, rfl⟩
  have HW3 : Hid (W3 = W2.setCell ⟨B, 0, none⟩ (.int .i64 3)) := hW3
  have B3 : Hid (W3.heap[B]? = some (.cells #[.int .i64 3, .int .i64 0, .int .i64 0, .slice none 0 0] 36)) := by show _ = _; rw [hW3]; exact (quad_one B2.out _).1
  have R3 : Hid (W3.heap[R]? = some (.cells #[.int .i64 0, .int .i64 0, .int .i64 0, .slice none 0 0] 36)) := by show _ = _; rw [hW3]; exact set_else R2.out hRB
  have x0 : W3.cell? ⟨g, 0, none⟩ = some (.string T) := by rw [hW3]; exact cell_else y0 hgB
  have x1 : W3.cell? ⟨g, 1, none⟩ = some (.string T1) := by rw [hW3]; exact cell_else y1 hgB
  rw [← hW3] at hgw3
  have hgw5 : w.grownBy (W3.setCell ⟨B, 2, none⟩ (.int .i64 q)) none := grown_setNew hgw3 _ hwB _ _
  obtain ⟨W5, hW5⟩ : ∃ W5 : World, W5 = W3.setCell ⟨B, 2, none⟩ (.int .i64 q) := ⟨_, rfl⟩
  have HW5 : Hid (W5 = W3.setCell ⟨B, 2, none⟩ (.int .i64 q)) := hW5
  have BW : Hid (W5.heap[B]? = some (.cells #[.int .i64 3, .int .i64 0, .int .i64 q, .slice none 0 0] 36)) := by show _ = _; rw [hW5]; exact (quad_one B3.out _).2.2.1
  have RW : Hid (W5.heap[R]? = some (.cells #[.int .i64 0, .int .i64 0, .int .i64 0, .slice none 0 0] 36)) := by show _ = _; rw [hW5]; exact set_else R3.out hRB
  have v0 : W5.cell? ⟨g, 0, none⟩ = some (.string T) := by rw [hW5]; exact cell_else x0 hgB
  rw [← hW5] at hgw5
  have HP : Hid (PartIs 0 W5 (.slice none 0 0) []) := part_nil _
  have AF : Hid (Calls Tryd.prog 23 #[.agg #[.int .i64 3, .int .i64 0, .int .i64 q, .slice none 0 0]] W5 fun e w' => e = .returned (.int .i64 z) ∧ W5.grownBy w' none) := AFG.out W5
  go_upto_region 3 with fail
  rw [← HW2.out, ← hB]
  clear hB HW2 hg2 hg1 WO R1 hglt hRlt hW3 hW5
  go_upto_region 9 with fail
  rw [← HW3.out]
  clear y0 y1 z0 z1 z2 z3 k0 k1 k2 k3
  obtain ⟨⟨b0, b1, b2, b3⟩, k0, k1, k2, k3, _⟩ := quad_room (grown_refl W3 none) B3.out
  go_wp2_with fail
  refine (WH.out _).mono ?_
  rintro e w' ⟨rfl, rfl⟩
  go_upto_region 10 with fail
  rw [← HW5.out]
  clear x0 x1 b0 b1 b2 b3 k0 k1 k2 k3
  obtain ⟨⟨b0, b1, b2, b3⟩, _⟩ := quad_room (grown_refl W5 none) BW.out
  by_cases hz : z = 0
  · have hA := HA0.out hz
    subst hA
    subst hz
    clear HA0 HA1
    go_wp2_with fail
    refine AF.out.mono ?_
    rintro e w4 ⟨rfl, hg4⟩
    have hgw4 := grown_trans hgw5 hg4
    have RZ := pair_old hg4 RW.out
    clear b0 b1 b2 b3
    obtain ⟨⟨b0, b1, b2, b3⟩, _⟩ := quad_room hg4 BW.out
    obtain ⟨⟨r0, r1, r2, r3⟩, s0, s1, s2, s3, _⟩ := quad_room (grown_refl w4 none) RZ
    obtain ⟨_, q0, q1, q2, q3⟩ := quad_set RZ (.int .i64 3) (.int .i64 0) (.int .i64 q) (.slice none 0 0)
    have HQ : Hid (w4.heap[R]? = some (.cells #[.int .i64 0, .int .i64 0, .int .i64 0, .slice none 0 0] 36)) := RZ
    clear RZ
    go_wp2
    obtain ⟨qb, _⟩ := quad_set HQ.out (.int .i64 3) (.int .i64 0) (.int .i64 q) (.slice none 0 0)
    obtain ⟨⟨p0, p1, p2, p3⟩, _⟩ := quad_room (grown_refl _ none) qb
    have hgr := grown_set (grown_set (grown_set (grown_set (grown_refl w4 (some R)) 0 (.int .i64 3)) 1 (.int .i64 0)) 2 (.int .i64 q)) 3 (.slice none 0 0)
    refine bodyPost_ret (v := .agg #[.int .i64 3, .int .i64 0, .int .i64 q, .slice none 0 0]) (by simp [results, Tryd.results28, go_sem, p0, p1, p2, p3]) rfl ?_
    exact ⟨_, rfl, (HP.out.keptT hg4 (.inl rfl)).keptT hgr (.inr ⟨R, _, _, _, rfl, Nat.zero_le _, HQ.out, acT5⟩), grown_setNew (grown_setNew (grown_setNew (grown_setNew hgw4 _ HRw.out _ _) _ HRw.out _ _) _ HRw.out _ _) _ HRw.out _ _⟩
  · have hA := HA1.out hz
    unfold noAc at hA
    subst hA
    have HZ : Hid (z ≠ 0) := hz
    clear HA0 HA1
    clear hz
    go_wp2_with fail
    refine AF.out.mono ?_
    rintro e w4 ⟨rfl, hg4⟩
    have hgw4 := grown_trans hgw5 hg4
    have RZ := pair_old hg4 RW.out
    clear b0 b1 b2 b3
    have hz := HZ.out
    obtain ⟨⟨r0, r1, r2, r3⟩, s0, s1, s2, s3, _⟩ := quad_room (grown_refl w4 none) RZ
    obtain ⟨_, q0, q1, q2, q3⟩ := quad_set RZ (.int .i64 0) (.int .i64 0) (.int .i64 0) (.slice none 0 0)
    have HQ : Hid ((w4.heap[R]? = some (.cells #[.int .i64 0, .int .i64 0, .int .i64 0, .slice none 0 0] 36))) := RZ
    clear RZ
    go_wp2
    obtain ⟨qb, _⟩ := quad_set HQ.out (.int .i64 0) (.int .i64 0) (.int .i64 0) (.slice none 0 0)
    obtain ⟨⟨p0, p1, p2, p3⟩, _⟩ := quad_room (grown_refl _ none) qb
    refine bodyPost_ret (v := .agg #[.int .i64 0, .int .i64 0, .int .i64 0, .slice none 0 0]) (by simp [results, Tryd.results28, go_sem, p0, p1, p2, p3]) rfl ?_
    exact ⟨_, rfl, part_nil _, grown_setNew (grown_setNew (grown_setNew (grown_setNew hgw4 _ HRw.out _ _) _ HRw.out _ _) _ HRw.out _ _) _ HRw.out _ _⟩
end Go.Proofs.YtpefggkhjocanaaDoor
