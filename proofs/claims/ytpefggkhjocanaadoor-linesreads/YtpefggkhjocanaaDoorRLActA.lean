/-
  The document's answer: lineAct, ask (gen10line.py writes this text).
-/
import Derived.Test.YtpefggkhjocanaaDoorRLActC
namespace Go.Proofs.YtpefggkhjocanaaDoor
open Go.RowKit
theorem hexB_nat {a b : UInt8} (ha : 0 ≤ hexV a) (hb : 0 ≤ hexV b) : ((hexB a b).toNat : Int) = 16 * hexV a + hexV b := by
  have h1 := (hexC_hexV a ha).2
  have h2 := (hexC_hexV b hb).2
  unfold hexB
  rw [UInt8.toNat_ofNat']
  omega
theorem drop_two {d : List UInt8} {j : Nat} (h : j + 1 < d.length) : d.drop j = d.getD j 0 :: d.getD (j + 1) 0 :: d.drop (j + 2) := by
  rw [List.drop_eq_getElem_cons (by omega), List.drop_eq_getElem_cons (i := j + 1) h]
  simp [show j < d.length by omega, h]
theorem unhex_bad {d acc : List UInt8} {j : Nat} (h : j + 1 < d.length) (hu : unhex d = (unhex (d.drop j)).map (acc ++ ·)) (hb : hexV (d.getD j 0) < 0 ∨ hexV (d.getD (j + 1) 0) < 0) : unhex d = none := by
  rw [hu, drop_two h, unhex, if_pos hb]; rfl
theorem unhex_good {d acc : List UInt8} {j : Nat} (h : j + 1 < d.length) (hu : unhex d = (unhex (d.drop j)).map (acc ++ ·)) (hb : ¬ (hexV (d.getD j 0) < 0 ∨ hexV (d.getD (j + 1) 0) < 0)) : unhex d = (unhex (d.drop (j + 2))).map ((acc ++ [hexB (d.getD j 0) (d.getD (j + 1) 0)]) ++ ·) := by
  conv => lhs; rw [hu, drop_two h, unhex, if_neg hb]
  cases unhex (d.drop (j + 2)) with
  | none => rfl
  | some bs => simp
theorem own_low {BB : Nat} {W w' : World} {v : Value} {bs : List UInt8} (ho : Own BB W v bs) (hg : W.grownBy w' v.ownBlock) {b : Nat} {o : Obj} (hb : W.heap[b]? = some o) (hlt : b < BB) : w'.heap[b]? = some o := by
  rw [hg.block b (Array.getElem?_eq_some_iff.1 hb).1 (fun e => by have := (ho.lt b e.symm).1; omega)]; exact hb
theorem own_cell {BB : Nat} {W w' : World} {v : Value} {bs : List UInt8} (ho : Own BB W v bs) (hg : W.grownBy w' v.ownBlock) {b i : Nat} {x : Value} (hb : W.cell? ⟨b, i, none⟩ = some x) (hlt : b < BB) : w'.cell? ⟨b, i, none⟩ = some x :=
  hg.cell hb (fun e => by have := (ho.lt b e.symm).1; omega)
theorem own_set {BB : Nat} {W : World} {v : Value} {bs : List UInt8} (ho : Own BB W v bs) {b : Nat} (hlt : b < BB) (i : Nat) (u : Value) : Own BB (W.setCell ⟨b, i, none⟩ u) v bs :=
  ho.grown (grown_set (grown_refl W (some b)) i u) (.inr fun e => by have := (ho.lt b e).1; omega)
theorem grown_low {w W w1 : World} {BB : Nat} {v : Value} {bs : List UInt8} (h : w.grownBy W none) (ho : Own BB W v bs) (hb : w.heap.size ≤ BB) (hg : W.grownBy w1 v.ownBlock) : w.grownBy w1 none := grown_own h (own_mono ho hb) hg
set_option maxRecDepth 100000 in
set_option maxHeartbeats 2000000 in
theorem lineAct_ask (S : ByteArray) (w : World) (hl : S.size ≤ 2000000) (x : List UInt8) (T2 : ByteArray) (hw : wordsF (tl S) = [wAsk, x, tl T2]) (hxl : x.length ≤ 2000000) (hdl : T2.size ≤ 2000000) (heven : T2.size % 2 = 0) (A : Ac)
    (hA0 : ∀ bs, unhex (tl T2) = some bs → A = if actE ⟨1, wholeF x, 0, bs⟩ = 0 then ⟨1, wholeF x, 0, bs⟩ else noAc) (hA1 : unhex (tl T2) = none → A = noAc) : LineOK S w A := by
  unfold LineOK
  obtain ⟨W0, HW0, hg0, R0⟩ := alloc_namedR w (.cells #[.int .i64 0, .int .i64 0, .int .i64 0, .slice none 0 0] 36)
  have WO : Hid (Calls Tryd.prog 41 #[.string S] W0 fun e w' => ∃ x, e = .returned x ∧ WordsIs w' x (wordsF (tl S)) ∧ W0.grownBy w' none) := wordsOf_any S W0 hl
  have HNE : Hid (wordsF (tl S) ≠ []) := wordsF_ne _
  have ht : (wordsF (tl S)).getD 0 [] = wAsk := by rw [hw]; rfl
  have ht1 : (wordsF (tl S)).getD 1 [] = x := by rw [hw]; rfl
  have ht2 : (wordsF (tl S)).getD 2 [] = tl T2 := by rw [hw]; rfl
  have hn : (wordsF (tl S)).length = 3 := by rw [hw]; rfl
  clear hw
  generalize wordsF (tl S) = ws at *
  have hlen : 0 < ws.length := by omega
  have WH : Hid (∀ W : World, Calls Tryd.prog 42 #[.string (textOf x)] W fun e w' => e = .returned (.int .i64 (wholeF x)) ∧ w' = W) := fun W => by
    have := whole_any (textOf x) W (by rw [tl_size, tl_text]; exact hxl)
    rw [tl_text] at this
    exact this
  have hq := whole_range x
  have HQR : Hid (-9223372036854775808 ≤ wholeF x ∧ wholeF x ≤ 9223372036854775807) := hq
  have HA0 : Hid (∀ bs, unhex (tl T2) = some bs → A = if actE ⟨1, wholeF x, 0, bs⟩ = 0 then ⟨1, wholeF x, 0, bs⟩ else noAc) := hA0
  have HA1 : Hid (unhex (tl T2) = none → A = noAc) := hA1
  have HS2 : Hid (T2.size = (tl T2).length) := tl_size T2
  have HG2 : Hid (∀ i (h : i < T2.size), (tl T2).getD i 0 = T2[i]) := fun i h => tl_get T2 i h
  clear hA0 hA1 hq
  obtain ⟨R, hR⟩ : ∃ R, R = w.heap.size := ⟨_, rfl⟩
  have HRw : Hid (w.heap.size ≤ R) := by show _ ≤ _; omega
  rw [← hR] at R0
  go_enter Tryd.func28, Tryd.ntmps28
  go_upto_region 1 with fail
  rw [← HW0.out, ← hR]
  clear hR HW0
  go_wp2_with fail
  refine WO.out.mono ?_
  rintro e w1 ⟨x, rfl, hwd, hg1⟩
  obtain ⟨g, gc, rfl, hx⟩ := id hwd
  have hglt := hwd.lt HNE.out
  have R1 := pair_old hg1 R0.out
  have hRlt := (Array.getElem?_eq_some_iff.1 R1).1
  obtain ⟨W2, HW2, hg2, B2⟩ := alloc_namedR w1 (.cells #[.int .i64 0, .int .i64 0, .int .i64 0, .slice none 0 0] 36)
  have R2 : Hid (W2.heap[R]? = some (.cells #[.int .i64 0, .int .i64 0, .int .i64 0, .slice none 0 0] 36)) := pair_old hg2 R1
  have hgw2 := grown_trans hg0 (grown_trans hg1 hg2)
  obtain ⟨⟨z0, z1, z2, z3⟩, k0, k1, k2, k3, _⟩ := quad_room (grown_refl W2 none) B2.out
  obtain ⟨B, hB⟩ : ∃ B, B = w1.heap.size := ⟨_, rfl⟩
  have hwB : w.heap.size ≤ B := by have := (grown_trans hg0 hg1).size; omega
  have hRB : R ≠ B := by omega
  have hgB : g ≠ B := by omega
  rw [← hB] at B2 z0 z1 z2 z3 k0 k1 k2 k3
  have hx0 := hx 0 hlen
  have hx1 := hx 1 (by omega)
  have hx2 := hx 2 (by omega)
  have y0 := hg2.cell hx0 (by simp)
  have y1 := hg2.cell hx1 (by simp)
  have y2 := hg2.cell hx2 (by simp)
  have t1 : (textOf (ws.getD 0 [])).toList = [97, 115, 107] := by rw [ht]; exact textOf_list _
  rw [ht1] at y1 hx1
  rw [ht2, text_tl] at y2 hx2
  generalize textOf (ws.getD 0 []) = T at *
  generalize textOf x = T1 at *
  generalize wholeF x = q at *
  rw [hn] at *
  clear hx hx0 hx1 hx2 hwd hlen ht hn ht1 ht2
  have m1 : (T2.size : Int).tmod 2 = 0 := by rw [Int.tmod_eq_emod_of_nonneg (by omega)]; omega
  have m2 : (2 : Int) ∣ (T2.size : Int) := by omega
  have hgw3 : w.grownBy (W2.setCell ⟨B, 0, none⟩ (.int .i64 1)) none := grown_setNew hgw2 _ hwB _ _
  obtain ⟨W3, hW3⟩ : ∃ W3 : World, W3 = W2.setCell ⟨B, 0, none⟩ (.int .i64 1) := ⟨_, rfl⟩
  have HW3 : Hid (W3 = W2.setCell ⟨B, 0, none⟩ (.int .i64 1)) := hW3
  have B3 : Hid (W3.heap[B]? = some (.cells #[.int .i64 1, .int .i64 0, .int .i64 0, .slice none 0 0] 36)) := by show _ = _; rw [hW3]; exact (quad_one B2.out _).1
  have R3 : Hid (W3.heap[R]? = some (.cells #[.int .i64 0, .int .i64 0, .int .i64 0, .slice none 0 0] 36)) := by show _ = _; rw [hW3]; exact set_else R2.out hRB
  have x1 : W3.cell? ⟨g, 1, none⟩ = some (.string T1) := by rw [hW3]; exact cell_else y1 hgB
  have x2 : W3.cell? ⟨g, 2, none⟩ = some (.string T2) := by rw [hW3]; exact cell_else y2 hgB
  rw [← hW3] at hgw3
  have hgw5 : w.grownBy (W3.setCell ⟨B, 1, none⟩ (.int .i64 q)) none := grown_setNew hgw3 _ hwB _ _
  obtain ⟨W5, hW5⟩ : ∃ W5 : World, W5 = W3.setCell ⟨B, 1, none⟩ (.int .i64 q) := ⟨_, rfl⟩
  have HW5 : Hid (W5 = W3.setCell ⟨B, 1, none⟩ (.int .i64 q)) := hW5
  have B5 : Hid (W5.heap[B]? = some (.cells #[.int .i64 1, .int .i64 q, .int .i64 0, .slice none 0 0] 36)) := by show _ = _; rw [hW5]; exact (quad_one B3.out _).2.1
  have R5 : Hid (W5.heap[R]? = some (.cells #[.int .i64 0, .int .i64 0, .int .i64 0, .slice none 0 0] 36)) := by show _ = _; rw [hW5]; exact set_else R3.out hRB
  have v2 : W5.cell? ⟨g, 2, none⟩ = some (.string T2) := by rw [hW5]; exact cell_else x2 hgB
  rw [← hW5] at hgw5
  have V2 : Hid (W5.cell? ⟨g, 2, none⟩ = some (.string T2)) := v2
  obtain ⟨BB, hBB⟩ : ∃ BB, BB = W5.heap.size := ⟨_, rfl⟩
  have hBlt : B < BB := by rw [hBB]; exact (Array.getElem?_eq_some_iff.1 B5.out).1
  have hRlt5 : R < BB := by rw [hBB]; exact (Array.getElem?_eq_some_iff.1 R5.out).1
  have hglt5 : g < BB := by omega
  have hwBB : w.heap.size ≤ BB := by omega
  have HBB : Hid (BB ≤ W5.heap.size) := by show _ ≤ _; omega
  go_upto_region 3 with fail
  rw [← HW2.out, ← hB]
  clear hB HW2 hg2 hg1 WO R1 hglt hRlt hW3 hW5 hBB v2
  go_upto_region 12 with fail
  rw [← HW3.out]
  clear y0 y1 y2 z0 z1 z2 z3 k0 k1 k2 k3
  obtain ⟨⟨b0, b1, b2, b3⟩, k0, k1, k2, k3, _⟩ := quad_room (grown_refl W3 none) B3.out
  go_wp2_with fail
  refine (WH.out _).mono ?_
  rintro e w' ⟨rfl, rfl⟩
  go_upto_region 13 with fail
  rw [← HW5.out]
  clear x1 x2 b0 b1 b2 b3 k0 k1 k2 k3 m1 m2 HW3 HW5 B3 R3 R2 B2 t1
  go_wp2_with fail
  go_loopw [5] (fun jv wr => ∃ (j : Nat) (acc : List UInt8) (dv : Value), jv = .int .i64 (j : Int) ∧ j ≤ T2.size ∧ j % 2 = 0 ∧ acc.length ≤ j ∧ Own BB wr dv acc ∧ wr.heap[B]? = some (.cells #[.int .i64 1, .int .i64 q, .int .i64 0, dv] 36) ∧ wr.heap[R]? = some (.cells #[.int .i64 0, .int .i64 0, .int .i64 0, .slice none 0 0] 36) ∧ wr.cell? ⟨g, 2, none⟩ = some (.string T2) ∧ BB ≤ wr.heap.size ∧ unhex (tl T2) = (unhex ((tl T2).drop j)).map (acc ++ ·) ∧ w.grownBy wr none) (fun jv _ => T2.size - (intOf jv).toNat)
  case atStart => exact ⟨0, [], _, rfl, by omega, rfl, Nat.le_refl _, own_nil _ _, B5.out, R5.out, V2.out, HBB.out, by cases h : unhex (tl T2) <;> simp [h], hgw5⟩
  case round =>
    clear hgw2 hgw3 hgw5 B5 R5 V2 HBB WH
    obtain ⟨j, acc, dv, rfl, hj, hj2, hal, hown, hBr, hRr, c2, hbb, hu, hg⟩ := hrel
    obtain ⟨da, dc, rfl⟩ := hown.shape
    have BW : Hid (wr.heap[B]? = some (.cells #[.int .i64 1, .int .i64 q, .int .i64 0, .slice da acc.length dc] 36)) := hBr
    have RW : Hid (wr.heap[R]? = some (.cells #[.int .i64 0, .int .i64 0, .int .i64 0, .slice none 0 0] 36)) := hRr
    obtain ⟨⟨b0, b1, b2, b3⟩, _⟩ := quad_room (grown_refl wr none) hBr
    have HO : Hid (Own BB wr (.slice da acc.length dc) acc) := hown
    have HU : Hid (unhex (tl T2) = (unhex ((tl T2).drop j)).map (acc ++ ·)) := hu
    clear hBr hown hu
    by_cases hlt : j < T2.size
    · have i1 : (j : Int) < (T2.size : Int) := by omega
      have hlt1 : j + 1 < T2.size := by omega
      have i2 : (j : Int) + 1 < (T2.size : Int) := by omega
      have g0 := HG2.out j hlt
      have g1 := HG2.out (j + 1) hlt1
      have hl1 : j + 1 < (tl T2).length := by rw [← HS2.out]; exact hlt1
      have UB : Hid (hexV (T2[j]'hlt) < 0 ∨ hexV (T2[j + 1]'hlt1) < 0 → unhex (tl T2) = none) := fun h => unhex_bad hl1 HU.out (by rw [g0, g1]; exact h)
      have UG : Hid (¬ (hexV (T2[j]'hlt) < 0 ∨ hexV (T2[j + 1]'hlt1) < 0) → unhex (tl T2) = (unhex ((tl T2).drop (j + 2))).map ((acc ++ [hexB (T2[j]'hlt) (T2[j + 1]'hlt1)]) ++ ·)) := fun h => by
        have := unhex_good hl1 HU.out (by rw [g0, g1]; exact h)
        rw [g0, g1] at this
        exact this
      have HB8 : Hid (0 ≤ hexV (T2[j]'hlt) → 0 ≤ hexV (T2[j + 1]'hlt1) → ((hexB (T2[j]'hlt) (T2[j + 1]'hlt1)).toNat : Int) = 16 * hexV (T2[j]'hlt) + hexV (T2[j + 1]'hlt1)) := hexB_nat
      have H0 : Hid (∀ W : World, Calls Tryd.prog 43 #[.int .u8 ((T2[j]'hlt).toNat : Int)] W fun e w' => e = .returned (.int .i64 (hexV (T2[j]'hlt))) ∧ w' = W) := fun W => hexValue_any _ W
      have H1 : Hid (∀ W : World, Calls Tryd.prog 43 #[.int .u8 ((T2[j + 1]'hlt1).toNat : Int)] W fun e w' => e = .returned (.int .i64 (hexV (T2[j + 1]'hlt1))) ∧ w' = W) := fun W => hexValue_any _ W
      clear g0 g1 hl1
      go_wp2_with fail
      refine (H0.out _).mono ?_
      rintro e w' ⟨rfl, hw'⟩
      subst w'
      go_wp2_with fail
      refine (H1.out _).mono ?_
      rintro e w' ⟨rfl, hw'⟩
      subst w'
      have uB := fun h => (hexC_hexV (T2[j]'hlt) h).2
      have lB := fun h => (hexC_hexV (T2[j + 1]'hlt1) h).2
      generalize hexB (T2[j]'hlt) (T2[j + 1]'hlt1) = hb at *
      generalize hexV (T2[j]'hlt) = u at *
      generalize hexV (T2[j + 1]'hlt1) = l at *
      clear H0 H1
      by_cases hu0 : u < 0
      · have hA := HA1.out (UB.out (.inl hu0))
        unfold noAc at hA
        subst hA
        have RZ := RW.out
        clear HA0 HA1 UB UG HB8 uB lB BW RW HO HU hRr
        obtain ⟨⟨r0, r1, r2, r3⟩, s0, s1, s2, s3, _⟩ := quad_room (grown_refl wr none) RZ
        obtain ⟨_, q0, q1, q2, q3⟩ := quad_set RZ (.int .i64 0) (.int .i64 0) (.int .i64 0) (.slice none 0 0)
        have HQ : Hid ((wr.heap[R]? = some (.cells #[.int .i64 0, .int .i64 0, .int .i64 0, .slice none 0 0] 36))) := RZ
        clear RZ
        go_wp2
        obtain ⟨qb, _⟩ := quad_set HQ.out (.int .i64 0) (.int .i64 0) (.int .i64 0) (.slice none 0 0)
        obtain ⟨⟨p0, p1, p2, p3⟩, _⟩ := quad_room (grown_refl _ none) qb
        refine bodyPost_ret (v := .agg #[.int .i64 0, .int .i64 0, .int .i64 0, .slice none 0 0]) (by simp [results, Tryd.results28, go_sem, p0, p1, p2, p3]) rfl ?_
        exact ⟨_, rfl, part_nil _, grown_setNew (grown_setNew (grown_setNew (grown_setNew hg _ HRw.out _ _) _ HRw.out _ _) _ HRw.out _ _) _ HRw.out _ _⟩
      · by_cases hl0 : l < 0
        · have hA := HA1.out (UB.out (.inr hl0))
          unfold noAc at hA
          subst hA
          have RZ := RW.out
          clear HA0 HA1 UB UG HB8 uB lB BW RW HO HU hRr
          obtain ⟨⟨r0, r1, r2, r3⟩, s0, s1, s2, s3, _⟩ := quad_room (grown_refl wr none) RZ
          obtain ⟨_, q0, q1, q2, q3⟩ := quad_set RZ (.int .i64 0) (.int .i64 0) (.int .i64 0) (.slice none 0 0)
          have HQ : Hid ((wr.heap[R]? = some (.cells #[.int .i64 0, .int .i64 0, .int .i64 0, .slice none 0 0] 36))) := RZ
          clear RZ
          go_wp2
          obtain ⟨qb, _⟩ := quad_set HQ.out (.int .i64 0) (.int .i64 0) (.int .i64 0) (.slice none 0 0)
          obtain ⟨⟨p0, p1, p2, p3⟩, _⟩ := quad_room (grown_refl _ none) qb
          refine bodyPost_ret (v := .agg #[.int .i64 0, .int .i64 0, .int .i64 0, .slice none 0 0]) (by simp [results, Tryd.results28, go_sem, p0, p1, p2, p3]) rfl ?_
          exact ⟨_, rfl, part_nil _, grown_setNew (grown_setNew (grown_setNew (grown_setNew hg _ HRw.out _ _) _ HRw.out _ _) _ HRw.out _ _) _ HRw.out _ _⟩
        · have u16 := uB (by omega)
          have l16 := lB (by omega)
          have HV := HB8.out (by omega) (by omega)
          have e1 : IntKind.i64.wrap (16 * u) = 16 * u := by rw [IntKind.wrap_i64]; omega
          have e2 : IntKind.i64.wrap (16 * u + l) = 16 * u + l := by rw [IntKind.wrap_i64]; omega
          have e3 : IntKind.u8.wrap (16 * u + l) = 16 * u + l := by rw [IntKind.wrap_u8]; omega
          have HS1 : Hid (SliceIs (wr.alloc (.cells #[.int .u8 (16 * u + l)] 5)) (.slice (some ⟨wr.heap.size, 0, none⟩) 1 1) [hb]) := by
            have := one_slice wr hb 5
            rw [HV] at this
            exact this
          have HN : Hid (unhex (tl T2) = (unhex ((tl T2).drop (j + 2))).map ((acc ++ [hb]) ++ ·)) := UG.out (by rintro (h | h); exact hu0 h; exact hl0 h)
          have BA : Hid ((wr.alloc (.cells #[.int .u8 (16 * u + l)] 5)).heap[B]? = some (.cells #[.int .i64 1, .int .i64 q, .int .i64 0, .slice da acc.length dc] 36)) := pair_old (World.grownBy_alloc _ _ _) BW.out
          have RA : Hid ((wr.alloc (.cells #[.int .u8 (16 * u + l)] 5)).heap[R]? = some (.cells #[.int .i64 0, .int .i64 0, .int .i64 0, .slice none 0 0] 36)) := pair_old (World.grownBy_alloc _ _ _) RW.out
          have CA : Hid ((wr.alloc (.cells #[.int .u8 (16 * u + l)] 5)).cell? ⟨g, 2, none⟩ = some (.string T2)) := (World.grownBy_alloc wr _ none).cell c2 (by simp)
          obtain ⟨acc2, hacc⟩ : ∃ acc2, acc2 = acc ++ [hb] := ⟨_, rfl⟩
          have HAC : Hid (acc2 = acc ++ [hb]) := hacc
          have HL2 : Hid (acc2.length ≤ j + 1) := by show _ ≤ _; rw [hacc, List.length_append, List.length_singleton]; omega
          rw [← hacc] at HN
          clear UB UG HB8 uB lB HU HA0 HA1 hRr HV u16 l16 hacc
          go_wp2_with (at_builtin; refine wpList_append_bytes rfl _ _ rfl BB (.slice da acc.length dc) acc rfl (HO.out.alloc _) (some ⟨wr.heap.size, 0, none⟩) 1 1 [hb] rfl HS1.out (by omega) (by simp; omega) ?_; intro v4 w4 ho4 hg4; rw [← HAC.out] at ho4; have HO4 : Hid (Own BB w4 v4 acc2) := ho4; have B4 : Hid (w4.heap[B]? = some (.cells #[.int .i64 1, .int .i64 q, .int .i64 0, .slice da acc.length dc] 36)) := own_low (HO.out.alloc _) hg4 BA.out hBlt; have R4 : Hid (w4.heap[R]? = some (.cells #[.int .i64 0, .int .i64 0, .int .i64 0, .slice none 0 0] 36)) := own_low (HO.out.alloc _) hg4 RA.out hRlt5; have C4 : Hid (w4.cell? ⟨g, 2, none⟩ = some (.string T2)) := own_cell (HO.out.alloc _) hg4 CA.out hglt5; obtain ⟨⟨d0, d1, d2, d3⟩, k0, k1, k2, k3, _⟩ := quad_room (grown_refl w4 none) B4.out; have hgw4 := grown_low (grown_alloc hg _) (HO.out.alloc _) hwBB hg4; have hs4 : BB ≤ w4.heap.size := Nat.le_trans hbb (Nat.le_trans (World.grownBy_alloc wr _ none).size hg4.size); obtain ⟨va, vc, rfl⟩ := ho4.shape; clear ho4)
          go_roundw
          case rel => exact ⟨j + 2, acc2, _, by go_num, by omega, by omega, by have := HL2.out; omega, own_set HO4.out hBlt _ _, (quad_one B4.out _).2.2.2, set_else R4.out hRB, cell_else C4.out hgB, by simp; omega, HN.out, grown_setNew hgw4 _ hwB _ _⟩
          case measure => simp [intOf] <;> omega
    · obtain rfl : j = T2.size := by omega
      have hsome : unhex (tl T2) = some acc := by
        have h := HU.out
        rw [HS2.out, List.drop_length, unhex] at h
        rw [h]
        simp
      have hA := HA0.out acc hsome
      have AFG : Hid (Calls Tryd.prog 23 #[.agg #[.int .i64 1, .int .i64 q, .int .i64 0, .slice da acc.length dc]] wr fun e w' => e = .returned (.int .i64 (actE ⟨1, q, 0, acc⟩)) ∧ wr.grownBy w' none) := actFault_any wr _ ⟨1, q, 0, acc⟩ ⟨_, rfl, HO.out.slice⟩ ⟨⟨by simp, by simp⟩, HQR.out, ⟨by simp, by simp⟩, by show acc.length ≤ _; omega⟩
      have HP : Hid (PartIs 0 wr (.slice da acc.length dc) acc) := HO.out.part
      generalize actE ⟨1, q, 0, acc⟩ = z at *
      have AF := AFG
      have HSZ : Hid (¬ (T2.size : Int) < (T2.size : Int)) := by show ¬ _; omega
      clear HA0 HA1 HU hsome HO hRr HG2 HS2 AFG
      by_cases hz : z = 0
      · rw [if_pos hz] at hA
        subst hA
        subst hz
        go_wp2_with fail
        refine AF.out.mono ?_
        rintro e w4 ⟨rfl, hg4⟩
        have hgw4 := grown_trans hg hg4
        have RZ := pair_old hg4 RW.out
        clear b0 b1 b2 b3
        obtain ⟨⟨b0, b1, b2, b3⟩, _⟩ := quad_room hg4 BW.out
        obtain ⟨⟨r0, r1, r2, r3⟩, s0, s1, s2, s3, _⟩ := quad_room (grown_refl w4 none) RZ
        obtain ⟨_, q0, q1, q2, q3⟩ := quad_set RZ (.int .i64 1) (.int .i64 q) (.int .i64 0) (.slice da acc.length dc)
        have HQ : Hid (w4.heap[R]? = some (.cells #[.int .i64 0, .int .i64 0, .int .i64 0, .slice none 0 0] 36)) := RZ
        clear RZ
        go_wp2
        obtain ⟨qb, _⟩ := quad_set HQ.out (.int .i64 1) (.int .i64 q) (.int .i64 0) (.slice da acc.length dc)
        obtain ⟨⟨p0, p1, p2, p3⟩, _⟩ := quad_room (grown_refl _ none) qb
        have hgr := grown_set (grown_set (grown_set (grown_set (grown_refl w4 (some R)) 0 (.int .i64 1)) 1 (.int .i64 q)) 2 (.int .i64 0)) 3 (.slice da acc.length dc)
        refine bodyPost_ret (v := .agg #[.int .i64 1, .int .i64 q, .int .i64 0, .slice da acc.length dc]) (by simp [results, Tryd.results28, go_sem, p0, p1, p2, p3]) rfl ?_
        exact ⟨_, rfl, (HP.out.keptT hg4 (.inl rfl)).keptT hgr (.inr ⟨R, _, _, _, rfl, Nat.zero_le _, HQ.out, acT5⟩), grown_setNew (grown_setNew (grown_setNew (grown_setNew hgw4 _ HRw.out _ _) _ HRw.out _ _) _ HRw.out _ _) _ HRw.out _ _⟩
      · rw [if_neg hz] at hA
        unfold noAc at hA
        subst hA
        have HZ : Hid (z ≠ 0) := hz
        clear hz
        go_wp2_with fail
        refine AF.out.mono ?_
        rintro e w4 ⟨rfl, hg4⟩
        have hgw4 := grown_trans hg hg4
        have RZ := pair_old hg4 RW.out
        clear b0 b1 b2 b3
        have hz := HZ.out
        obtain ⟨⟨r0, r1, r2, r3⟩, s0, s1, s2, s3, _⟩ := quad_room (grown_refl w4 none) RZ
        obtain ⟨_, q0, q1, q2, q3⟩ := quad_set RZ (.int .i64 0) (.int .i64 0) (.int .i64 0) (.slice none 0 0)
        have HQ : Hid ((w4.heap[R]? = some (.cells #[.int .i64 0, .int .i64 0, .int .i64 0, .slice none 0 0] 36))) := RZ
        clear RZ
        go_wp2
        obtain ⟨qb, _⟩ := quad_set HQ.out (.int .i64 0) (.int .i64 0) (.int .i64 0) (.slice none 0 0)
        obtain ⟨⟨p0, p1, p2, p3⟩, _⟩ := quad_room (grown_refl _ none) qb
        refine bodyPost_ret (v := .agg #[.int .i64 0, .int .i64 0, .int .i64 0, .slice none 0 0]) (by simp [results, Tryd.results28, go_sem, p0, p1, p2, p3]) rfl ?_
        exact ⟨_, rfl, part_nil _, grown_setNew (grown_setNew (grown_setNew (grown_setNew hgw4 _ HRw.out _ _) _ HRw.out _ _) _ HRw.out _ _) _ HRw.out _ _⟩
end Go.Proofs.YtpefggkhjocanaaDoor
