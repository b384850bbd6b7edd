/-
  The document's answer: lineAct, a line that has no act's form (gen10line.py writes this text).
-/
import Derived.Test.YtpefggkhjocanaaDoorRLActF
namespace Go.Proofs.YtpefggkhjocanaaDoor
open Go.RowKit
set_option maxRecDepth 100000 in
set_option maxHeartbeats 2000000 in
theorem lineAct_bad (S : ByteArray) (w : World) (hl : S.size ≤ 2000000) (h1 : (wordsF (tl S)).getD 0 [] = wSync → (wordsF (tl S)).length ≠ 1) (h2 : (wordsF (tl S)).getD 0 [] = wStart → (wordsF (tl S)).length ≠ 1) (h3 : (wordsF (tl S)).getD 0 [] = wCrash → (wordsF (tl S)).length ≠ 2) (h4 : (wordsF (tl S)).getD 0 [] = wAsk → (wordsF (tl S)).length = 3 → ((wordsF (tl S)).getD 2 []).length % 2 ≠ 0) :
    LineOK S w noAc := by
  unfold LineOK noAc
  obtain ⟨W0, HW0, hg0, R0⟩ := alloc_namedR w (.cells #[.int .i64 0, .int .i64 0, .int .i64 0, .slice none 0 0] 36)
  have WO : Hid (Calls Tryd.prog 41 #[.string S] W0 fun e w' => ∃ x, e = .returned x ∧ WordsIs w' x (wordsF (tl S)) ∧ W0.grownBy w' none) := wordsOf_any S W0 hl
  have HNE : Hid (wordsF (tl S) ≠ []) := wordsF_ne _
  generalize wordsF (tl S) = ws at *
  have hlen : 0 < ws.length := List.length_pos_iff.2 HNE.out
  obtain ⟨R, hR⟩ : ∃ R, R = w.heap.size := ⟨_, rfl⟩
  have HRw : Hid (w.heap.size ≤ R) := by show _ ≤ _; omega
  rw [← hR] at R0
  go_enter Tryd.func28, Tryd.ntmps28
  go_upto_region 1 with fail
  rw [← HW0.out, ← hR]
  clear hR HW0
  go_wp2_with fail
  refine WO.out.mono ?_
  rintro e w1 ⟨x, rfl, hwd, hg1⟩
  obtain ⟨g, gc, rfl, hx⟩ := id hwd
  have hglt := hwd.lt HNE.out
  have R1 := pair_old hg1 R0.out
  have hRlt := (Array.getElem?_eq_some_iff.1 R1).1
  obtain ⟨W2, HW2, hg2, B2⟩ := alloc_namedR w1 (.cells #[.int .i64 0, .int .i64 0, .int .i64 0, .slice none 0 0] 36)
  have R2 : Hid (W2.heap[R]? = some (.cells #[.int .i64 0, .int .i64 0, .int .i64 0, .slice none 0 0] 36)) := pair_old hg2 R1
  have hgw2 := grown_trans hg0 (grown_trans hg1 hg2)
  obtain ⟨⟨z0, z1, z2, z3⟩, k0, k1, k2, k3, _⟩ := quad_room (grown_refl W2 none) B2.out
  obtain ⟨B, hB⟩ : ∃ B, B = w1.heap.size := ⟨_, rfl⟩
  have hwB : w.heap.size ≤ B := by have := (grown_trans hg0 hg1).size; omega
  have hRB : R ≠ B := by omega
  have hgB : g ≠ B := by omega
  rw [← hB] at B2 z0 z1 z2 z3 k0 k1 k2 k3
  have hx0 := hx 0 hlen
  have y0 := hg2.cell hx0 (by simp)
  have Y2 : Hid (2 < ws.length → W2.cell? ⟨g, 2, none⟩ = some (.string (textOf (ws.getD 2 [])))) := fun h => hg2.cell (hx 2 h) (by simp)
  have hln : (0 : Int) < (ws.length : Int) := by omega
  have hs2 : (textOf (ws.getD 2 [])).size = (ws.getD 2 []).length := tl_size _
  have RZ := R2.out
  generalize ws.getD 0 [] = a0 at *
  generalize ws.getD 2 [] = a2 at *
  generalize ws.length = n at *
  have hT : (textOf a0).toList = a0 := textOf_list _
  generalize textOf a0 = T at *
  generalize textOf a2 = T2 at *
  subst hT
  clear hx hx0 hwd hlen
  go_upto_region 3 with fail
  rw [← HW2.out, ← hB]
  clear hB HW2 hg2 hg1 WO R1 hglt hRlt
  by_cases t1 : T.toList = [115, 121, 110, 99]
  · have i1 : ¬ (n : Int) = 1 := by have := h1 t1; omega
    clear h1 h2 h3 h4 Y2
    obtain ⟨⟨r0, r1, r2, r3⟩, s0, s1, s2, s3, _⟩ := quad_room (grown_refl W2 none) RZ
    obtain ⟨_, q0, q1, q2, q3⟩ := quad_set RZ (.int .i64 0) (.int .i64 0) (.int .i64 0) (.slice none 0 0)
    have HQ : Hid ((W2.heap[R]? = some (.cells #[.int .i64 0, .int .i64 0, .int .i64 0, .slice none 0 0] 36))) := RZ
    clear RZ
    go_wp2
    obtain ⟨qb, _⟩ := quad_set HQ.out (.int .i64 0) (.int .i64 0) (.int .i64 0) (.slice none 0 0)
    obtain ⟨⟨p0, p1, p2, p3⟩, _⟩ := quad_room (grown_refl _ none) qb
    refine bodyPost_ret (v := .agg #[.int .i64 0, .int .i64 0, .int .i64 0, .slice none 0 0]) (by simp [results, Tryd.results28, go_sem, p0, p1, p2, p3]) rfl ?_
    exact ⟨_, rfl, part_nil _, grown_setNew (grown_setNew (grown_setNew (grown_setNew hgw2 _ HRw.out _ _) _ HRw.out _ _) _ HRw.out _ _) _ HRw.out _ _⟩
  by_cases t2 : T.toList = [115, 116, 97, 114, 116]
  · have i1 : ¬ (n : Int) = 1 := by have := h2 t2; omega
    clear h1 h2 h3 h4 Y2 t1
    obtain ⟨⟨r0, r1, r2, r3⟩, s0, s1, s2, s3, _⟩ := quad_room (grown_refl W2 none) RZ
    obtain ⟨_, q0, q1, q2, q3⟩ := quad_set RZ (.int .i64 0) (.int .i64 0) (.int .i64 0) (.slice none 0 0)
    have HQ : Hid ((W2.heap[R]? = some (.cells #[.int .i64 0, .int .i64 0, .int .i64 0, .slice none 0 0] 36))) := RZ
    clear RZ
    go_wp2
    obtain ⟨qb, _⟩ := quad_set HQ.out (.int .i64 0) (.int .i64 0) (.int .i64 0) (.slice none 0 0)
    obtain ⟨⟨p0, p1, p2, p3⟩, _⟩ := quad_room (grown_refl _ none) qb
    refine bodyPost_ret (v := .agg #[.int .i64 0, .int .i64 0, .int .i64 0, .slice none 0 0]) (by simp [results, Tryd.results28, go_sem, p0, p1, p2, p3]) rfl ?_
    exact ⟨_, rfl, part_nil _, grown_setNew (grown_setNew (grown_setNew (grown_setNew hgw2 _ HRw.out _ _) _ HRw.out _ _) _ HRw.out _ _) _ HRw.out _ _⟩
  by_cases t3 : T.toList = [99, 114, 97, 115, 104]
  · have i1 : ¬ (n : Int) = 2 := by have := h3 t3; omega
    clear h1 h2 h3 h4 Y2 t1 t2
    obtain ⟨⟨r0, r1, r2, r3⟩, s0, s1, s2, s3, _⟩ := quad_room (grown_refl W2 none) RZ
    obtain ⟨_, q0, q1, q2, q3⟩ := quad_set RZ (.int .i64 0) (.int .i64 0) (.int .i64 0) (.slice none 0 0)
    have HQ : Hid ((W2.heap[R]? = some (.cells #[.int .i64 0, .int .i64 0, .int .i64 0, .slice none 0 0] 36))) := RZ
    clear RZ
    go_wp2
    obtain ⟨qb, _⟩ := quad_set HQ.out (.int .i64 0) (.int .i64 0) (.int .i64 0) (.slice none 0 0)
    obtain ⟨⟨p0, p1, p2, p3⟩, _⟩ := quad_room (grown_refl _ none) qb
    refine bodyPost_ret (v := .agg #[.int .i64 0, .int .i64 0, .int .i64 0, .slice none 0 0]) (by simp [results, Tryd.results28, go_sem, p0, p1, p2, p3]) rfl ?_
    exact ⟨_, rfl, part_nil _, grown_setNew (grown_setNew (grown_setNew (grown_setNew hgw2 _ HRw.out _ _) _ HRw.out _ _) _ HRw.out _ _) _ HRw.out _ _⟩
  by_cases t4 : T.toList = [97, 115, 107]
  · by_cases hn : n = 3
    · have hodd := h4 t4 hn
      have y2 := Y2.out (by omega)
      have i1 : (n : Int) = 3 := by omega
      have i2 : (2 : Int) < (n : Int) := by omega
      subst hn
      have m1 : ¬ (T2.size : Int).tmod 2 = 0 := by rw [hs2, Int.tmod_eq_emod_of_nonneg (by omega)]; omega
      have m2 : ¬ (2 : Int) ∣ (T2.size : Int) := by rw [hs2]; omega
      clear h1 h2 h3 h4 Y2 t1 t2 t3 hs2 hodd
      obtain ⟨⟨r0, r1, r2, r3⟩, s0, s1, s2, s3, _⟩ := quad_room (grown_refl W2 none) RZ
      obtain ⟨_, q0, q1, q2, q3⟩ := quad_set RZ (.int .i64 0) (.int .i64 0) (.int .i64 0) (.slice none 0 0)
      have HQ : Hid ((W2.heap[R]? = some (.cells #[.int .i64 0, .int .i64 0, .int .i64 0, .slice none 0 0] 36))) := RZ
      clear RZ
      go_wp2
      obtain ⟨qb, _⟩ := quad_set HQ.out (.int .i64 0) (.int .i64 0) (.int .i64 0) (.slice none 0 0)
      obtain ⟨⟨p0, p1, p2, p3⟩, _⟩ := quad_room (grown_refl _ none) qb
      refine bodyPost_ret (v := .agg #[.int .i64 0, .int .i64 0, .int .i64 0, .slice none 0 0]) (by simp [results, Tryd.results28, go_sem, p0, p1, p2, p3]) rfl ?_
      exact ⟨_, rfl, part_nil _, grown_setNew (grown_setNew (grown_setNew (grown_setNew hgw2 _ HRw.out _ _) _ HRw.out _ _) _ HRw.out _ _) _ HRw.out _ _⟩
    · have i1 : ¬ (n : Int) = 3 := by omega
      clear h1 h2 h3 h4 Y2 t1 t2 t3
      obtain ⟨⟨r0, r1, r2, r3⟩, s0, s1, s2, s3, _⟩ := quad_room (grown_refl W2 none) RZ
      obtain ⟨_, q0, q1, q2, q3⟩ := quad_set RZ (.int .i64 0) (.int .i64 0) (.int .i64 0) (.slice none 0 0)
      have HQ : Hid ((W2.heap[R]? = some (.cells #[.int .i64 0, .int .i64 0, .int .i64 0, .slice none 0 0] 36))) := RZ
      clear RZ
      go_wp2
      obtain ⟨qb, _⟩ := quad_set HQ.out (.int .i64 0) (.int .i64 0) (.int .i64 0) (.slice none 0 0)
      obtain ⟨⟨p0, p1, p2, p3⟩, _⟩ := quad_room (grown_refl _ none) qb
      refine bodyPost_ret (v := .agg #[.int .i64 0, .int .i64 0, .int .i64 0, .slice none 0 0]) (by simp [results, Tryd.results28, go_sem, p0, p1, p2, p3]) rfl ?_
      exact ⟨_, rfl, part_nil _, grown_setNew (grown_setNew (grown_setNew (grown_setNew hgw2 _ HRw.out _ _) _ HRw.out _ _) _ HRw.out _ _) _ HRw.out _ _⟩
  · clear h1 h2 h3 h4 Y2
    obtain ⟨⟨r0, r1, r2, r3⟩, s0, s1, s2, s3, _⟩ := quad_room (grown_refl W2 none) RZ
    obtain ⟨_, q0, q1, q2, q3⟩ := quad_set RZ (.int .i64 0) (.int .i64 0) (.int .i64 0) (.slice none 0 0)
    have HQ : Hid ((W2.heap[R]? = some (.cells #[.int .i64 0, .int .i64 0, .int .i64 0, .slice none 0 0] 36))) := RZ
    clear RZ
    go_wp2
    obtain ⟨qb, _⟩ := quad_set HQ.out (.int .i64 0) (.int .i64 0) (.int .i64 0) (.slice none 0 0)
    obtain ⟨⟨p0, p1, p2, p3⟩, _⟩ := quad_room (grown_refl _ none) qb
    refine bodyPost_ret (v := .agg #[.int .i64 0, .int .i64 0, .int .i64 0, .slice none 0 0]) (by simp [results, Tryd.results28, go_sem, p0, p1, p2, p3]) rfl ?_
    exact ⟨_, rfl, part_nil _, grown_setNew (grown_setNew (grown_setNew (grown_setNew hgw2 _ HRw.out _ _) _ HRw.out _ _) _ HRw.out _ _) _ HRw.out _ _⟩
end Go.Proofs.YtpefggkhjocanaaDoor
