/-
  The document's answer: RequestOf.
-/
import Derived.Test.YtghjikifflpeiaaDoorRRq1
import Derived.Test.YtghjikifflpeiaaDoorRRq3F
import Derived.Test.YtghjikifflpeiaaDoorRPiece
namespace Go.Proofs.YtghjikifflpeiaaDoor
open Go.RowKit
theorem Own.lateR {base : Nat} {w : World} {v : Value} {bs : List UInt8} (h : Own base w v bs) {b : Nat} (hb : b < base) (i : Nat) (u : Value) : Own base (w.setCell ⟨b, i, none⟩ u) v bs := h.later (grown_set (grown_refl w _) i u) hb
theorem Own.lateR5 {base : Nat} {w : World} {v : Value} {bs : List UInt8} (h : Own base w v bs) {b : Nat} (hb : b < base) (x y z u s : Value) : Own base (set5 w b x y z u s) v bs := h.later (five_turn w b x y z u s) hb
set_option maxRecDepth 100000 in
set_option maxHeartbeats 20000000 in
theorem requestOf_any (w : World) (v : Value) (b : List UInt8) (hv : SliceIs w v b) (hl : b.length ≤ 140737488355328) :
    Calls Tryd.prog 17 #[v] w fun e w' => ∃ x, e = .returned (.tuple #[x, .int .i64 (wdecE b)]) ∧ RqIs w' x (wdecR b) ∧ w.grownBy w' none := by
  obtain ⟨a, cap, rfl⟩ := hv.shape
  obtain ⟨W0, HW0, hg0, B0⟩ := alloc_namedR w (.cells #[.int .i64 0, .slice none 0 0, .slice none 0 0, .slice none 0 0, .slice none 0 0] 24)
  have hZ := five_set B0.out (.int .i64 0) (.slice none 0 0) (.slice none 0 0) (.slice none 0 0) (.slice none 0 0)
  obtain ⟨⟨z0, z1, z2, z3, z4⟩, hfz, _⟩ := five_room (grown_refl _ none) hZ
  obtain ⟨⟨c0, c1, c2, c3, c4⟩, ⟨f0, f1, f2, f3, f4⟩, _⟩ := five_room (grown_refl W0 none) B0.out
  have hgZ := five_grown hg0 (Nat.le_refl _) (.int .i64 0) (.slice none 0 0) (.slice none 0 0) (.slice none 0 0) (.slice none 0 0)
  clear hfz hZ
  by_cases h4 : 4000 < b.length
  · obtain ⟨e1, e2⟩ := wof_long h4
    rw [e1, e2]
    have i1 : (b.length : Int) > 4000 := by omega
    clear hv e1 e2 h4
    go_enter Tryd.func17, Tryd.ntmps17
    go_upto_region 1 with fail
    rw [← HW0.out]
    go_wp2
    refine bodyPost_ret (v := .tuple #[.agg #[.int .i64 0, .slice none 0 0, .slice none 0 0, .slice none 0 0, .slice none 0 0], .int .i64 1]) (by simp [results, Tryd.results17, go_sem, z0, z1, z2, z3, z4]) rfl ?_
    exact ⟨_, rfl, rqIs_no _, hgZ⟩
  · have i1 : ¬ (b.length : Int) > 4000 := by omega
    by_cases h0 : b.length = 0
    · obtain ⟨e1, e2⟩ := wof_short h0
      rw [e1, e2]
      have i2 : ((b.length : Int) == 0) = true := beq_iff_eq.2 (by omega)
      clear hv e1 e2 h4 h0
      go_enter Tryd.func17, Tryd.ntmps17
      go_upto_region 1 with fail
      rw [← HW0.out]
      go_wp2
      refine bodyPost_ret (v := .tuple #[.agg #[.int .i64 0, .slice none 0 0, .slice none 0 0, .slice none 0 0, .slice none 0 0], .int .i64 14]) (by simp [results, Tryd.results17, go_sem, z0, z1, z2, z3, z4]) rfl ?_
      exact ⟨_, rfl, rqIs_no _, hgZ⟩
    · have i2 : ((b.length : Int) == 0) = false := beq_eq_false_iff_ne.2 (by omega)
      have hpos : 0 < b.length := by omega
      obtain ⟨pb, po, rfl, hb⟩ := hv.byte 0 hpos
      have d0 := hb.grown hg0 (by simp) 0 hpos
      rw [Nat.add_zero] at d0
      have hn256 := (b.getD 0 0).toNat_lt
      have hKD : kindD b = ((b.getD 0 0).toNat : Int) := rfl
      have E0 := ends_bare h4 h0
      have E2 := ends_two h4 h0
      have E3 := ends_three h4 h0
      have E4 := ends_four h4 h0
      have EK := wof_kind h4 h0
      rw [hKD] at E0 E2 E3 E4 EK
      generalize hnn : (b.getD 0 0).toNat = n at *
      have HV : Hid (SliceIs w (.slice (some ⟨pb, po, none⟩) b.length cap) b) := hv
      obtain ⟨W1, HW1, hg1, BQ0⟩ := alloc_namedR W0 (.cells #[.int .i64 (n : Int), .slice none 0 0, .slice none 0 0, .slice none 0 0, .slice none 0 0] 24)
      have hg01 := grown_trans hg0 hg1
      have IN : Hid (Calls Tryd.prog 32 #[.int .i64 (n : Int), .int .i64 1, .int .i64 8] W1 fun e w' => e = .returned (.bool (decide (1 ≤ (n : Int) ∧ (n : Int) ≤ 8))) ∧ w' = W1) := in_any _ _ _ _
      have NA : Hid (Calls Tryd.prog 33 #[.int .i64 (n : Int)] W1 fun e w' => e = .returned (.bool (namedK (n : Int))) ∧ w' = W1) := named_any _ _
      have BR0 : Hid (W1.heap[w.heap.size]? = some (.cells #[.int .i64 0, .slice none 0 0, .slice none 0 0, .slice none 0 0, .slice none 0 0] 24)) := pair_old hg1 B0.out
      obtain ⟨RB, hRB⟩ : ∃ RB, RB = w.heap.size := ⟨_, rfl⟩
      obtain ⟨QB, hQB⟩ : ∃ QB, QB = W0.heap.size := ⟨_, rfl⟩
      obtain ⟨base, hbs⟩ : ∃ base, base = W1.heap.size := ⟨_, rfl⟩
      have hs0 : W0.heap.size = w.heap.size + 1 := by rw [HW0.out]; simp
      have hs1 : W1.heap.size = W0.heap.size + 1 := by rw [HW1.out]; simp
      have HRQ : Hid (RB ≠ QB) := by show _ ≠ _; omega
      have HQb : Hid (QB < base) := by show _ < _; omega
      have HRb : Hid (RB < base) := by show _ < _; omega
      have HRw : Hid (w.heap.size ≤ RB) := by show _ ≤ _; omega
      have HQw : Hid (w.heap.size ≤ QB) := by show _ ≤ _; omega
      have HSB : Hid (base ≤ W1.heap.size) := by show _ ≤ _; omega
      have hb4000 : b.length ≤ 4000 := by omega
      have PC : Hid (∀ w' o, w.grownBy w' none → (∀ n, o = some n → n ≤ 300000) → Calls Tryd.prog 39 #[.slice (some ⟨pb, po, none⟩) b.length cap, .int .i64 (atI o)] w' fun e w'' => ∃ x, e = .returned (.tuple #[x, .int .i64 (atI (pieceAt b o).2)]) ∧ Own w'.heap.size w'' x (pieceAt b o).1 ∧ w'.grownBy w'' none) := fun w' o h1 h2 => piece_any w' _ b o (HV.out.grown h1) (by omega) h2
      have PS : Hid (∀ o m, (pieceAt b o).2 = some m → m ≤ b.length) := fun o m h => (pieceAt_small b o).2 m h
      have PL : Hid (∀ o, (pieceAt b o).1.length ≤ 255) := fun o => (pieceAt_small b o).1
      obtain ⟨Z, hZ⟩ : ∃ Z, Z = wdecE b := ⟨_, rfl⟩
      obtain ⟨Q, hQ⟩ : ∃ Q, Q = wdecR b := ⟨_, rfl⟩
      have HZ : Hid (Z = wdecE b) := hZ
      have HQ : Hid (Q = wdecR b) := hQ
      rw [← hZ, ← hQ]
      have CK : Hid (∀ w' u r, RqIs w' u r → RqFits r → Calls Tryd.prog 11 #[u] w' fun e w'' => e = .returned (.int .i64 (reqE r)) ∧ w'.grownBy w'' none) := fun w' u r h1 h2 => requestFault_any w' u r h1 h2
      have HE0 : Hid (1 ≤ (n : Int) ∧ (n : Int) ≤ 8 → namedK (n : Int) = false → ¬ (n : Int) = 3 → ¬ (n : Int) = 4 → EndsAt b (some 1) ⟨(n : Int), [], [], [], []⟩) := E0
      have HE2 : Hid (1 ≤ (n : Int) ∧ (n : Int) ≤ 8 → namedK (n : Int) = true → ¬ (n : Int) = 3 → ¬ (n : Int) = 4 → EndsAt b (pieceAt b (pieceAt b (some 1)).2).2 ⟨(n : Int), (pieceAt b (some 1)).1, (pieceAt b (pieceAt b (some 1)).2).1, [], []⟩) := E2
      have HE3 : Hid (1 ≤ (n : Int) ∧ (n : Int) ≤ 8 → (n : Int) = 3 → EndsAt b (pieceAt b (pieceAt b (pieceAt b (some 1)).2).2).2 ⟨(n : Int), (pieceAt b (some 1)).1, (pieceAt b (pieceAt b (some 1)).2).1, (pieceAt b (pieceAt b (pieceAt b (some 1)).2).2).1, []⟩) := E3
      have HE4 : Hid (1 ≤ (n : Int) ∧ (n : Int) ≤ 8 → (n : Int) = 4 → EndsAt b (pieceAt b (pieceAt b (pieceAt b (some 1)).2).2).2 ⟨(n : Int), (pieceAt b (some 1)).1, (pieceAt b (pieceAt b (some 1)).2).1, [], (pieceAt b (pieceAt b (pieceAt b (some 1)).2).2).1⟩) := E4
      clear E0 E2 E3 E4 hZ hQ hv hb hnn hKD h4 h0 hs0 hs1 hbs z0 z1 z2 z3 z4 hgZ
      go_enter Tryd.func17, Tryd.ntmps17
      go_upto_region 1 with fail
      rw [← HW0.out]
      go_upto_region 6 with fail
      rw [← HW1.out]
      rw [← hQB] at BQ0 ⊢
      rw [← hRB] at BR0 ⊢
      clear hQB hRB HW1 HW0 c0 c1 c2 c3 c4 f0 f1 f2 f3 f4 d0 hg1
      obtain ⟨⟨c0, c1, c2, c3, c4⟩, ⟨f0, f1, f2, f3, f4⟩, _⟩ := five_room (grown_refl W1 none) BQ0.out
      obtain ⟨⟨m0, m1, m2, m3, m4⟩, ⟨y0, y1, y2, y3, y4⟩, _⟩ := five_room (grown_refl W1 none) BR0.out
      go_wp2_with fail
      refine IN.out.mono ?_
      rintro e w2 ⟨rfl, hw⟩
      rw [hw]
      clear hw
      by_cases hk : 1 ≤ (n : Int) ∧ (n : Int) ≤ 8
      · rw [decide_eq_true hk]
        go_wp2_with fail
        refine NA.out.mono ?_
        rintro e w2 ⟨rfl, hw⟩
        rw [hw]
        clear hw
        have HK : Hid (1 ≤ (n : Int) ∧ (n : Int) ≤ 8) := hk
        clear EK hk
        cases hNK : namedK (n : Int) with
        | false =>
          have hk3 : ¬ (n : Int) = 3 := fun h => by rw [h] at hNK; exact absurd hNK (by decide)
          have hk4 : ¬ (n : Int) = 4 := fun h => by rw [h] at hNK; exact absurd hNK (by decide)
          have i3 : ((n : Int) == 3) = false := by simp [hk3]
          have i4 : ((n : Int) == 4) = false := by simp [hk4]
          have HEN := HE0.out HK.out hNK hk3 hk4
          clear hNK hk3 hk4
          have EN : Hid (EndsAt b (some 1) (⟨(n : Int), [], [], [], []⟩ : Rq)) := HEN
          clear HEN HE0 HE2 HE3 HE4 IN NA
          have HRQ0 : Hid (RqIs W1 (.agg #[.int .i64 (n : Int), .slice none 0 0, .slice none 0 0, .slice none 0 0, .slice none 0 0]) (⟨(n : Int), [], [], [], []⟩ : Rq)) := ⟨_, _, _, _, rfl, sliceIs_nil _, sliceIs_nil _, sliceIs_nil _, sliceIs_nil _⟩
          have HFT : Hid (RqFits (⟨(n : Int), [], [], [], []⟩ : Rq)) := ⟨by show -9223372036854775808 ≤ (n : Int) ∧ (n : Int) ≤ 9223372036854775807; omega, (by simp), (by simp), (by simp), (by simp)⟩
          have hmle : 1 ≤ b.length := EN.out.few _ rfl
          by_cases hlt : 1 < b.length
          · obtain ⟨e1, e2⟩ := EN.out.more _ rfl hlt
            have HZ1 : Hid (Z = 4) := by show _ = _; rw [HZ.out, e1]
            have HQ1 : Hid (Q = noRq) := by show _ = _; rw [HQ.out, e2]
            have hQ5 := five_set BR0.out (.int .i64 0) (.slice none 0 0) (.slice none 0 0) (.slice none 0 0) (.slice none 0 0)
            obtain ⟨⟨r0, r1, r2, r3, r4⟩, hfz, _⟩ := five_room (grown_refl _ none) hQ5
            have hgQ := five_grown hg01 HRw.out (.int .i64 0) (.slice none 0 0) (.slice none 0 0) (.slice none 0 0) (.slice none 0 0)
            have i5 : decide ((1 : Int) < (b.length : Int)) = true := decide_eq_true (by omega)
            have i7 : (1 : Int) < (b.length : Int) := by omega
            have i8 : 1 < b.length := hlt
            have i9 : decide (1 < b.length) = true := decide_eq_true hlt
            clear e1 e2 hQ5 hfz c1 c2 c3 c4 f0 f1 f2 f3 f4 HRQ0 HFT EN HZ HQ PC PS PL CK hlt hmle
            go_wp2
            refine bodyPost_ret (v := .tuple #[.agg #[.int .i64 0, .slice none 0 0, .slice none 0 0, .slice none 0 0, .slice none 0 0], .int .i64 4]) (by simp [results, Tryd.results17, go_sem, r0, r1, r2, r3, r4]) rfl ?_
            exact ⟨_, by rw [HZ1.out], by rw [HQ1.out]; exact rqIs_no _, hgQ⟩
          · obtain ⟨e1, e2, e3⟩ := EN.out.all _ rfl (by omega)
            have HZ1 : Hid (Z = reqE (⟨(n : Int), [], [], [], []⟩ : Rq)) := by show _ = _; rw [HZ.out, e1]
            have HQ1 : Hid (reqE (⟨(n : Int), [], [], [], []⟩ : Rq) = 0 → Q = (⟨(n : Int), [], [], [], []⟩ : Rq)) := fun h => by rw [HQ.out, e2 h]
            have HQ2 : Hid (reqE (⟨(n : Int), [], [], [], []⟩ : Rq) ≠ 0 → Q = noRq) := fun h => by rw [HQ.out, e3 h]
            have CK1 : Hid (Calls Tryd.prog 11 #[.agg #[.int .i64 (n : Int), .slice none 0 0, .slice none 0 0, .slice none 0 0, .slice none 0 0]] W1 fun e w'' => e = .returned (.int .i64 (reqE (⟨(n : Int), [], [], [], []⟩ : Rq))) ∧ W1.grownBy w'' none) := CK.out _ _ _ HRQ0.out HFT.out
            have i5 : decide ((1 : Int) < (b.length : Int)) = false := decide_eq_false (by omega)
            have i7 : ¬ (1 : Int) < (b.length : Int) := by omega
            have i8 : ¬ 1 < b.length := hlt
            have i9 : decide (1 < b.length) = false := decide_eq_false hlt
            clear e1 e2 e3 EN HZ HQ PC PS PL CK hlt hmle
            obtain ⟨RR, hRR⟩ : ∃ RR, RR = (⟨(n : Int), [], [], [], []⟩ : Rq) := ⟨_, rfl⟩
            rw [← hRR] at HZ1 HQ1 HQ2 CK1
            have HRR : Hid (RR = (⟨(n : Int), [], [], [], []⟩ : Rq)) := hRR
            clear hRR
            generalize reqE RR = FE at *
            go_wp2_with fail
            refine CK1.out.mono ?_
            rintro e w8 ⟨rfl, hg8⟩
            clear c0 c1 c2 c3 c4 f0 f1 f2 f3 f4 m0 m1 m2 m3 m4 y0 y1 y2 y3 y4
            obtain ⟨⟨c0, c1, c2, c3, c4⟩, hfz, _⟩ := five_room hg8 BQ0.out
            clear hfz
            obtain ⟨⟨m0, m1, m2, m3, m4⟩, ⟨y0, y1, y2, y3, y4⟩, hR8⟩ := five_room hg8 BR0.out
            have hgw8 := grown_trans hg01 hg8
            by_cases hz : FE = 0
            · have hzb : (FE != 0) = false := by simp [hz]
              have HZ2 : Hid (Z = 0) := by show _ = _; rw [HZ1.out, hz]
              have HQ3 : Hid (Q = RR) := HQ1.out hz
              have hQ5 := five_set hR8 (.int .i64 (n : Int)) (.slice none 0 0) (.slice none 0 0) (.slice none 0 0) (.slice none 0 0)
              obtain ⟨⟨r0, r1, r2, r3, r4⟩, hfz, _⟩ := five_room (grown_refl _ none) hQ5
              have hgQ := five_grown hgw8 HRw.out (.int .i64 (n : Int)) (.slice none 0 0) (.slice none 0 0) (.slice none 0 0) (.slice none 0 0)
              have HRES : Hid (RqIs (set5 w8 RB (.int .i64 (n : Int)) (.slice none 0 0) (.slice none 0 0) (.slice none 0 0) (.slice none 0 0)) (.agg #[.int .i64 (n : Int), .slice none 0 0, .slice none 0 0, .slice none 0 0, .slice none 0 0]) RR) := by rw [HRR.out]; exact ⟨_, _, _, _, rfl, sliceIs_nil _, sliceIs_nil _, sliceIs_nil _, sliceIs_nil _⟩
              clear hQ5 hfz hz HZ1 HQ1 HQ2 hR8
              go_wp2
              refine bodyPost_ret (v := .tuple #[.agg #[.int .i64 (n : Int), .slice none 0 0, .slice none 0 0, .slice none 0 0, .slice none 0 0], .int .i64 0]) (by simp [results, Tryd.results17, go_sem, r0, r1, r2, r3, r4]) rfl ?_
              exact ⟨_, by rw [HZ2.out], by rw [HQ3.out]; exact HRES.out, hgQ⟩
            · have hzb : (FE != 0) = true := by simp [hz]
              have HQ3 : Hid (Q = noRq) := HQ2.out hz
              have hQ5 := five_set hR8 (.int .i64 0) (.slice none 0 0) (.slice none 0 0) (.slice none 0 0) (.slice none 0 0)
              obtain ⟨⟨r0, r1, r2, r3, r4⟩, hfz, _⟩ := five_room (grown_refl _ none) hQ5
              have hgQ := five_grown hgw8 HRw.out (.int .i64 0) (.slice none 0 0) (.slice none 0 0) (.slice none 0 0) (.slice none 0 0)
              clear hQ5 hfz hz HQ1 HQ2 hR8
              go_wp2
              refine bodyPost_ret (v := .tuple #[.agg #[.int .i64 0, .slice none 0 0, .slice none 0 0, .slice none 0 0, .slice none 0 0], .int .i64 FE]) (by simp [results, Tryd.results17, go_sem, r0, r1, r2, r3, r4]) rfl ?_
              exact ⟨_, by rw [HZ1.out], by rw [HQ3.out]; exact rqIs_no _, hgQ⟩
        | true =>
          obtain ⟨p1, s1, hp1, hs1⟩ : ∃ p s, p = (pieceAt b (some 1)).1 ∧ s = (pieceAt b (some 1)).2 := ⟨_, _, rfl, rfl⟩
          have Hp1 : Hid (p1 = (pieceAt b (some 1)).1) := hp1
          have Hs1 : Hid (s1 = (pieceAt b (some 1)).2) := hs1
          have P1 : Hid (∀ w', w.grownBy w' none → Calls Tryd.prog 39 #[.slice (some ⟨pb, po, none⟩) b.length cap, .int .i64 1] w' fun e w'' => ∃ x, e = .returned (.tuple #[x, .int .i64 (atI s1)]) ∧ Own w'.heap.size w'' x p1 ∧ w'.grownBy w'' none) := fun w' hg => by
            rw [hp1, hs1]; exact PC.out w' (some 1) hg (fun n h => by cases h; omega)
          have l1 : p1.length ≤ 255 := by rw [hp1]; exact PL.out _
          clear hp1 hs1
          go_wp2_with fail
          refine (P1.out _ hg01).mono ?_
          rintro e u1w ⟨x1, rfl, ho1, hg1w⟩
          obtain ⟨xa1, xc1, rfl⟩ := ho1.shape
          obtain ⟨V1, HV1⟩ : ∃ V : World, Hid (V = u1w.setCell ⟨QB, 1, none⟩ (.slice xa1 p1.length xc1)) := ⟨_, rfl⟩
          have BQ1 : Hid (V1.heap[QB]? = some (.cells #[.int .i64 (n : Int), .slice xa1 p1.length xc1, .slice none 0 0, .slice none 0 0, .slice none 0 0] 24)) := by rw [HV1.out]; exact set_selfR (pair_old hg1w BQ0.out)
          have BR1 : Hid (V1.heap[RB]? = some (.cells #[.int .i64 0, .slice none 0 0, .slice none 0 0, .slice none 0 0, .slice none 0 0] 24)) := by rw [HV1.out]; exact set_apartR (pair_old hg1w BR0.out) HRQ.out
          have GW1 : Hid (w.grownBy V1 none) := by rw [HV1.out]; exact grown_setNew (grown_trans hg01 hg1w) _ HQw.out _ _
          have SZ1 : Hid (base ≤ V1.heap.size) := by rw [HV1.out]; show base ≤ _; have := Nat.le_trans HSB.out hg1w.size; simpa [World.setCell] using this
          have O1_1 : Hid (Own base V1 (.slice xa1 p1.length xc1) p1) := by rw [HV1.out]; exact (own_mono ho1 HSB.out).lateR HQb.out _ _
          clear c0 c1 c2 c3 c4 f0 f1 f2 f3 f4 m0 m1 m2 m3 m4 y0 y1 y2 y3 y4 ho1
          obtain ⟨⟨c0, c1, c2, c3, c4⟩, ⟨f0, f1, f2, f3, f4⟩, _⟩ := five_room hg1w BQ0.out
          obtain ⟨⟨m0, m1, m2, m3, m4⟩, ⟨y0, y1, y2, y3, y4⟩, _⟩ := five_room hg1w BR0.out
          go_upto_region 11 with fail
          rw [← HV1.out]
          clear c0 c1 c2 c3 c4 f0 f1 f2 f3 f4 m0 m1 m2 m3 m4 y0 y1 y2 y3 y4
          obtain ⟨⟨c0, c1, c2, c3, c4⟩, ⟨f0, f1, f2, f3, f4⟩, _⟩ := five_room (grown_refl V1 none) BQ1.out
          obtain ⟨⟨m0, m1, m2, m3, m4⟩, ⟨y0, y1, y2, y3, y4⟩, _⟩ := five_room (grown_refl V1 none) BR1.out
          obtain ⟨p2, s2, hp2, hs2⟩ : ∃ p s, p = (pieceAt b (s1)).1 ∧ s = (pieceAt b (s1)).2 := ⟨_, _, rfl, rfl⟩
          have Hp2 : Hid (p2 = (pieceAt b (s1)).1) := hp2
          have Hs2 : Hid (s2 = (pieceAt b (s1)).2) := hs2
          have P2 : Hid (∀ w', w.grownBy w' none → Calls Tryd.prog 39 #[.slice (some ⟨pb, po, none⟩) b.length cap, .int .i64 (atI s1)] w' fun e w'' => ∃ x, e = .returned (.tuple #[x, .int .i64 (atI s2)]) ∧ Own w'.heap.size w'' x p2 ∧ w'.grownBy w'' none) := fun w' hg => by
            rw [hp2, hs2]; exact PC.out w' (s1) hg (fun n h => by have := PS.out _ n (by rw [← Hs1.out]; exact h); omega)
          have l2 : p2.length ≤ 255 := by rw [hp2]; exact PL.out _
          clear hp2 hs2
          go_wp2_with fail
          refine (P2.out _ GW1.out).mono ?_
          rintro e u2w ⟨x2, rfl, ho2, hg2w⟩
          obtain ⟨xa2, xc2, rfl⟩ := ho2.shape
          obtain ⟨V2, HV2⟩ : ∃ V : World, Hid (V = u2w.setCell ⟨QB, 2, none⟩ (.slice xa2 p2.length xc2)) := ⟨_, rfl⟩
          have BQ2 : Hid (V2.heap[QB]? = some (.cells #[.int .i64 (n : Int), .slice xa1 p1.length xc1, .slice xa2 p2.length xc2, .slice none 0 0, .slice none 0 0] 24)) := by rw [HV2.out]; exact set_selfR (pair_old hg2w BQ1.out)
          have BR2 : Hid (V2.heap[RB]? = some (.cells #[.int .i64 0, .slice none 0 0, .slice none 0 0, .slice none 0 0, .slice none 0 0] 24)) := by rw [HV2.out]; exact set_apartR (pair_old hg2w BR1.out) HRQ.out
          have GW2 : Hid (w.grownBy V2 none) := by rw [HV2.out]; exact grown_setNew (grown_trans GW1.out hg2w) _ HQw.out _ _
          have SZ2 : Hid (base ≤ V2.heap.size) := by rw [HV2.out]; show base ≤ _; have := Nat.le_trans SZ1.out hg2w.size; simpa [World.setCell] using this
          have O2_2 : Hid (Own base V2 (.slice xa2 p2.length xc2) p2) := by rw [HV2.out]; exact (own_mono ho2 SZ1.out).lateR HQb.out _ _
          have O1_2 : Hid (Own base V2 (.slice xa1 p1.length xc1) p1) := by rw [HV2.out]; exact (O1_1.out.grownNone hg2w).lateR HQb.out _ _
          clear c0 c1 c2 c3 c4 f0 f1 f2 f3 f4 m0 m1 m2 m3 m4 y0 y1 y2 y3 y4 ho2
          obtain ⟨⟨c0, c1, c2, c3, c4⟩, ⟨f0, f1, f2, f3, f4⟩, _⟩ := five_room hg2w BQ1.out
          obtain ⟨⟨m0, m1, m2, m3, m4⟩, ⟨y0, y1, y2, y3, y4⟩, _⟩ := five_room hg2w BR1.out
          go_upto_region 12 with fail
          rw [← HV2.out]
          clear c0 c1 c2 c3 c4 f0 f1 f2 f3 f4 m0 m1 m2 m3 m4 y0 y1 y2 y3 y4
          obtain ⟨⟨c0, c1, c2, c3, c4⟩, ⟨f0, f1, f2, f3, f4⟩, _⟩ := five_room (grown_refl V2 none) BQ2.out
          obtain ⟨⟨m0, m1, m2, m3, m4⟩, ⟨y0, y1, y2, y3, y4⟩, _⟩ := five_room (grown_refl V2 none) BR2.out
          by_cases hk3 : (n : Int) = 3
          · have i3 : ((n : Int) == 3) = true := by simp [hk3]
            have i4 : ((n : Int) == 4) = false := by simp [hk3]
            have HEN := HE3.out HK.out hk3
            rw [← Hp1.out, ← Hs1.out, ← Hp2.out, ← Hs2.out] at HEN
            clear hNK hk3
            obtain ⟨p3, s3, hp3, hs3⟩ : ∃ p s, p = (pieceAt b (s2)).1 ∧ s = (pieceAt b (s2)).2 := ⟨_, _, rfl, rfl⟩
            have Hp3 : Hid (p3 = (pieceAt b (s2)).1) := hp3
            have Hs3 : Hid (s3 = (pieceAt b (s2)).2) := hs3
            have P3 : Hid (∀ w', w.grownBy w' none → Calls Tryd.prog 39 #[.slice (some ⟨pb, po, none⟩) b.length cap, .int .i64 (atI s2)] w' fun e w'' => ∃ x, e = .returned (.tuple #[x, .int .i64 (atI s3)]) ∧ Own w'.heap.size w'' x p3 ∧ w'.grownBy w'' none) := fun w' hg => by
              rw [hp3, hs3]; exact PC.out w' (s2) hg (fun n h => by have := PS.out _ n (by rw [← Hs2.out]; exact h); omega)
            have l3 : p3.length ≤ 255 := by rw [hp3]; exact PL.out _
            clear hp3 hs3
            go_wp2_with fail
            refine (P3.out _ GW2.out).mono ?_
            rintro e u3w ⟨x3, rfl, ho3, hg3w⟩
            obtain ⟨xa3, xc3, rfl⟩ := ho3.shape
            obtain ⟨V3, HV3⟩ : ∃ V : World, Hid (V = u3w.setCell ⟨QB, 3, none⟩ (.slice xa3 p3.length xc3)) := ⟨_, rfl⟩
            have BQ3 : Hid (V3.heap[QB]? = some (.cells #[.int .i64 (n : Int), .slice xa1 p1.length xc1, .slice xa2 p2.length xc2, .slice xa3 p3.length xc3, .slice none 0 0] 24)) := by rw [HV3.out]; exact set_selfR (pair_old hg3w BQ2.out)
            have BR3 : Hid (V3.heap[RB]? = some (.cells #[.int .i64 0, .slice none 0 0, .slice none 0 0, .slice none 0 0, .slice none 0 0] 24)) := by rw [HV3.out]; exact set_apartR (pair_old hg3w BR2.out) HRQ.out
            have GW3 : Hid (w.grownBy V3 none) := by rw [HV3.out]; exact grown_setNew (grown_trans GW2.out hg3w) _ HQw.out _ _
            have SZ3 : Hid (base ≤ V3.heap.size) := by rw [HV3.out]; show base ≤ _; have := Nat.le_trans SZ2.out hg3w.size; simpa [World.setCell] using this
            have O3_3 : Hid (Own base V3 (.slice xa3 p3.length xc3) p3) := by rw [HV3.out]; exact (own_mono ho3 SZ2.out).lateR HQb.out _ _
            have O1_3 : Hid (Own base V3 (.slice xa1 p1.length xc1) p1) := by rw [HV3.out]; exact (O1_2.out.grownNone hg3w).lateR HQb.out _ _
            have O2_3 : Hid (Own base V3 (.slice xa2 p2.length xc2) p2) := by rw [HV3.out]; exact (O2_2.out.grownNone hg3w).lateR HQb.out _ _
            clear c0 c1 c2 c3 c4 f0 f1 f2 f3 f4 m0 m1 m2 m3 m4 y0 y1 y2 y3 y4 ho3
            obtain ⟨⟨c0, c1, c2, c3, c4⟩, ⟨f0, f1, f2, f3, f4⟩, _⟩ := five_room hg3w BQ2.out
            obtain ⟨⟨m0, m1, m2, m3, m4⟩, ⟨y0, y1, y2, y3, y4⟩, _⟩ := five_room hg3w BR2.out
            go_upto_region 14 with fail
            rw [← HV3.out]
            clear c0 c1 c2 c3 c4 f0 f1 f2 f3 f4 m0 m1 m2 m3 m4 y0 y1 y2 y3 y4
            obtain ⟨⟨c0, c1, c2, c3, c4⟩, ⟨f0, f1, f2, f3, f4⟩, _⟩ := five_room (grown_refl V3 none) BQ3.out
            obtain ⟨⟨m0, m1, m2, m3, m4⟩, ⟨y0, y1, y2, y3, y4⟩, _⟩ := five_room (grown_refl V3 none) BR3.out
            rw [← Hp3.out, ← Hs3.out] at HEN
            have EN : Hid (EndsAt b s3 (⟨(n : Int), p1, p2, p3, []⟩ : Rq)) := HEN
            clear HEN HE0 HE2 HE3 HE4 IN NA
            have HRQ0 : Hid (RqIs V3 (.agg #[.int .i64 (n : Int), .slice xa1 p1.length xc1, .slice xa2 p2.length xc2, .slice xa3 p3.length xc3, .slice none 0 0]) (⟨(n : Int), p1, p2, p3, []⟩ : Rq)) := ⟨_, _, _, _, rfl, O1_3.out.slice, O2_3.out.slice, O3_3.out.slice, sliceIs_nil _⟩
            have HFT : Hid (RqFits (⟨(n : Int), p1, p2, p3, []⟩ : Rq)) := ⟨by show -9223372036854775808 ≤ (n : Int) ∧ (n : Int) ≤ 9223372036854775807; omega, (by show p1.length ≤ _; omega), (by show p2.length ≤ _; omega), (by show p3.length ≤ _; omega), (by simp)⟩
            cases ho : s3 with
            | none =>
              obtain ⟨e1, e2⟩ := EN.out.none ho
              have HZ1 : Hid (Z = 14) := by show _ = _; rw [HZ.out, e1]
              have HQ1 : Hid (Q = noRq) := by show _ = _; rw [HQ.out, e2]
              have hQ5 := five_set BR3.out (.int .i64 0) (.slice none 0 0) (.slice none 0 0) (.slice none 0 0) (.slice none 0 0)
              obtain ⟨⟨r0, r1, r2, r3, r4⟩, hfz, _⟩ := five_room (grown_refl _ none) hQ5
              have hgQ := five_grown GW3.out HRw.out (.int .i64 0) (.slice none 0 0) (.slice none 0 0) (.slice none 0 0) (.slice none 0 0)
              clear e1 e2 hQ5 hfz ho c1 c2 c3 c4 f0 f1 f2 f3 f4 HRQ0 HFT EN HZ HQ PC PS PL CK
              rw [show atI none = -1 from rfl]
              go_wp2
              refine bodyPost_ret (v := .tuple #[.agg #[.int .i64 0, .slice none 0 0, .slice none 0 0, .slice none 0 0, .slice none 0 0], .int .i64 14]) (by simp [results, Tryd.results17, go_sem, r0, r1, r2, r3, r4]) rfl ?_
              exact ⟨_, by rw [HZ1.out], by rw [HQ1.out]; exact rqIs_no _, hgQ⟩
            | some m =>
              have HM : Hid (s3 = some m) := ho
              rw [show atI (some m) = (m : Int) from rfl]
              have i6 : decide ((m : Int) < 0) = false := decide_eq_false (by omega)
              have hmle : m ≤ b.length := EN.out.few _ HM.out
              by_cases hlt : m < b.length
              · obtain ⟨e1, e2⟩ := EN.out.more _ HM.out hlt
                have HZ1 : Hid (Z = 4) := by show _ = _; rw [HZ.out, e1]
                have HQ1 : Hid (Q = noRq) := by show _ = _; rw [HQ.out, e2]
                have hQ5 := five_set BR3.out (.int .i64 0) (.slice none 0 0) (.slice none 0 0) (.slice none 0 0) (.slice none 0 0)
                obtain ⟨⟨r0, r1, r2, r3, r4⟩, hfz, _⟩ := five_room (grown_refl _ none) hQ5
                have hgQ := five_grown GW3.out HRw.out (.int .i64 0) (.slice none 0 0) (.slice none 0 0) (.slice none 0 0) (.slice none 0 0)
                have i5 : decide (((m : Int) : Int) < (b.length : Int)) = true := decide_eq_true (by omega)
                have i7 : ((m : Int) : Int) < (b.length : Int) := by omega
                have i8 : m < b.length := hlt
                have i9 : decide (m < b.length) = true := decide_eq_true hlt
                clear e1 e2 hQ5 hfz ho c1 c2 c3 c4 f0 f1 f2 f3 f4 HRQ0 HFT EN HZ HQ PC PS PL CK hlt hmle
                go_wp2
                refine bodyPost_ret (v := .tuple #[.agg #[.int .i64 0, .slice none 0 0, .slice none 0 0, .slice none 0 0, .slice none 0 0], .int .i64 4]) (by simp [results, Tryd.results17, go_sem, r0, r1, r2, r3, r4]) rfl ?_
                exact ⟨_, by rw [HZ1.out], by rw [HQ1.out]; exact rqIs_no _, hgQ⟩
              · obtain ⟨e1, e2, e3⟩ := EN.out.all _ HM.out (by omega)
                have HZ1 : Hid (Z = reqE (⟨(n : Int), p1, p2, p3, []⟩ : Rq)) := by show _ = _; rw [HZ.out, e1]
                have HQ1 : Hid (reqE (⟨(n : Int), p1, p2, p3, []⟩ : Rq) = 0 → Q = (⟨(n : Int), p1, p2, p3, []⟩ : Rq)) := fun h => by rw [HQ.out, e2 h]
                have HQ2 : Hid (reqE (⟨(n : Int), p1, p2, p3, []⟩ : Rq) ≠ 0 → Q = noRq) := fun h => by rw [HQ.out, e3 h]
                have CK1 : Hid (Calls Tryd.prog 11 #[.agg #[.int .i64 (n : Int), .slice xa1 p1.length xc1, .slice xa2 p2.length xc2, .slice xa3 p3.length xc3, .slice none 0 0]] V3 fun e w'' => e = .returned (.int .i64 (reqE (⟨(n : Int), p1, p2, p3, []⟩ : Rq))) ∧ V3.grownBy w'' none) := CK.out _ _ _ HRQ0.out HFT.out
                have i5 : decide (((m : Int) : Int) < (b.length : Int)) = false := decide_eq_false (by omega)
                have i7 : ¬ ((m : Int) : Int) < (b.length : Int) := by omega
                have i8 : ¬ m < b.length := hlt
                have i9 : decide (m < b.length) = false := decide_eq_false hlt
                clear e1 e2 e3 EN HZ HQ PC PS PL CK hlt hmle ho
                obtain ⟨RR, hRR⟩ : ∃ RR, RR = (⟨(n : Int), p1, p2, p3, []⟩ : Rq) := ⟨_, rfl⟩
                rw [← hRR] at HZ1 HQ1 HQ2 CK1
                have HRR : Hid (RR = (⟨(n : Int), p1, p2, p3, []⟩ : Rq)) := hRR
                clear hRR
                generalize reqE RR = FE at *
                go_wp2_with fail
                refine CK1.out.mono ?_
                rintro e w8 ⟨rfl, hg8⟩
                clear c0 c1 c2 c3 c4 f0 f1 f2 f3 f4 m0 m1 m2 m3 m4 y0 y1 y2 y3 y4
                obtain ⟨⟨c0, c1, c2, c3, c4⟩, hfz, _⟩ := five_room hg8 BQ3.out
                clear hfz
                obtain ⟨⟨m0, m1, m2, m3, m4⟩, ⟨y0, y1, y2, y3, y4⟩, hR8⟩ := five_room hg8 BR3.out
                have hgw8 := grown_trans GW3.out hg8
                by_cases hz : FE = 0
                · have hzb : (FE != 0) = false := by simp [hz]
                  have HZ2 : Hid (Z = 0) := by show _ = _; rw [HZ1.out, hz]
                  have HQ3 : Hid (Q = RR) := HQ1.out hz
                  have hQ5 := five_set hR8 (.int .i64 (n : Int)) (.slice xa1 p1.length xc1) (.slice xa2 p2.length xc2) (.slice xa3 p3.length xc3) (.slice none 0 0)
                  obtain ⟨⟨r0, r1, r2, r3, r4⟩, hfz, _⟩ := five_room (grown_refl _ none) hQ5
                  have hgQ := five_grown hgw8 HRw.out (.int .i64 (n : Int)) (.slice xa1 p1.length xc1) (.slice xa2 p2.length xc2) (.slice xa3 p3.length xc3) (.slice none 0 0)
                  have HRES : Hid (RqIs (set5 w8 RB (.int .i64 (n : Int)) (.slice xa1 p1.length xc1) (.slice xa2 p2.length xc2) (.slice xa3 p3.length xc3) (.slice none 0 0)) (.agg #[.int .i64 (n : Int), .slice xa1 p1.length xc1, .slice xa2 p2.length xc2, .slice xa3 p3.length xc3, .slice none 0 0]) RR) := by rw [HRR.out]; exact ⟨_, _, _, _, rfl, ((O1_3.out.grownNone hg8).lateR5 HRb.out _ _ _ _ _).slice, ((O2_3.out.grownNone hg8).lateR5 HRb.out _ _ _ _ _).slice, ((O3_3.out.grownNone hg8).lateR5 HRb.out _ _ _ _ _).slice, sliceIs_nil _⟩
                  clear hQ5 hfz hz HZ1 HQ1 HQ2 hR8
                  go_wp2
                  refine bodyPost_ret (v := .tuple #[.agg #[.int .i64 (n : Int), .slice xa1 p1.length xc1, .slice xa2 p2.length xc2, .slice xa3 p3.length xc3, .slice none 0 0], .int .i64 0]) (by simp [results, Tryd.results17, go_sem, r0, r1, r2, r3, r4]) rfl ?_
                  exact ⟨_, by rw [HZ2.out], by rw [HQ3.out]; exact HRES.out, hgQ⟩
                · have hzb : (FE != 0) = true := by simp [hz]
                  have HQ3 : Hid (Q = noRq) := HQ2.out hz
                  have hQ5 := five_set hR8 (.int .i64 0) (.slice none 0 0) (.slice none 0 0) (.slice none 0 0) (.slice none 0 0)
                  obtain ⟨⟨r0, r1, r2, r3, r4⟩, hfz, _⟩ := five_room (grown_refl _ none) hQ5
                  have hgQ := five_grown hgw8 HRw.out (.int .i64 0) (.slice none 0 0) (.slice none 0 0) (.slice none 0 0) (.slice none 0 0)
                  clear hQ5 hfz hz HQ1 HQ2 hR8
                  go_wp2
                  refine bodyPost_ret (v := .tuple #[.agg #[.int .i64 0, .slice none 0 0, .slice none 0 0, .slice none 0 0, .slice none 0 0], .int .i64 FE]) (by simp [results, Tryd.results17, go_sem, r0, r1, r2, r3, r4]) rfl ?_
                  exact ⟨_, by rw [HZ1.out], by rw [HQ3.out]; exact rqIs_no _, hgQ⟩
          · by_cases hk4 : (n : Int) = 4
            · have i3 : ((n : Int) == 3) = false := by simp [hk4]
              have i4 : ((n : Int) == 4) = true := by simp [hk4]
              have HEN := HE4.out HK.out hk4
              rw [← Hp1.out, ← Hs1.out, ← Hp2.out, ← Hs2.out] at HEN
              clear hNK hk3 hk4
              obtain ⟨p3, s3, hp3, hs3⟩ : ∃ p s, p = (pieceAt b (s2)).1 ∧ s = (pieceAt b (s2)).2 := ⟨_, _, rfl, rfl⟩
              have Hp3 : Hid (p3 = (pieceAt b (s2)).1) := hp3
              have Hs3 : Hid (s3 = (pieceAt b (s2)).2) := hs3
              have P3 : Hid (∀ w', w.grownBy w' none → Calls Tryd.prog 39 #[.slice (some ⟨pb, po, none⟩) b.length cap, .int .i64 (atI s2)] w' fun e w'' => ∃ x, e = .returned (.tuple #[x, .int .i64 (atI s3)]) ∧ Own w'.heap.size w'' x p3 ∧ w'.grownBy w'' none) := fun w' hg => by
                rw [hp3, hs3]; exact PC.out w' (s2) hg (fun n h => by have := PS.out _ n (by rw [← Hs2.out]; exact h); omega)
              have l3 : p3.length ≤ 255 := by rw [hp3]; exact PL.out _
              clear hp3 hs3
              go_wp2_with fail
              refine (P3.out _ GW2.out).mono ?_
              rintro e u3w ⟨x3, rfl, ho3, hg3w⟩
              obtain ⟨xa3, xc3, rfl⟩ := ho3.shape
              obtain ⟨V3, HV3⟩ : ∃ V : World, Hid (V = u3w.setCell ⟨QB, 4, none⟩ (.slice xa3 p3.length xc3)) := ⟨_, rfl⟩
              have BQ3 : Hid (V3.heap[QB]? = some (.cells #[.int .i64 (n : Int), .slice xa1 p1.length xc1, .slice xa2 p2.length xc2, .slice none 0 0, .slice xa3 p3.length xc3] 24)) := by rw [HV3.out]; exact set_selfR (pair_old hg3w BQ2.out)
              have BR3 : Hid (V3.heap[RB]? = some (.cells #[.int .i64 0, .slice none 0 0, .slice none 0 0, .slice none 0 0, .slice none 0 0] 24)) := by rw [HV3.out]; exact set_apartR (pair_old hg3w BR2.out) HRQ.out
              have GW3 : Hid (w.grownBy V3 none) := by rw [HV3.out]; exact grown_setNew (grown_trans GW2.out hg3w) _ HQw.out _ _
              have SZ3 : Hid (base ≤ V3.heap.size) := by rw [HV3.out]; show base ≤ _; have := Nat.le_trans SZ2.out hg3w.size; simpa [World.setCell] using this
              have O3_3 : Hid (Own base V3 (.slice xa3 p3.length xc3) p3) := by rw [HV3.out]; exact (own_mono ho3 SZ2.out).lateR HQb.out _ _
              have O1_3 : Hid (Own base V3 (.slice xa1 p1.length xc1) p1) := by rw [HV3.out]; exact (O1_2.out.grownNone hg3w).lateR HQb.out _ _
              have O2_3 : Hid (Own base V3 (.slice xa2 p2.length xc2) p2) := by rw [HV3.out]; exact (O2_2.out.grownNone hg3w).lateR HQb.out _ _
              clear c0 c1 c2 c3 c4 f0 f1 f2 f3 f4 m0 m1 m2 m3 m4 y0 y1 y2 y3 y4 ho3
              obtain ⟨⟨c0, c1, c2, c3, c4⟩, ⟨f0, f1, f2, f3, f4⟩, _⟩ := five_room hg3w BQ2.out
              obtain ⟨⟨m0, m1, m2, m3, m4⟩, ⟨y0, y1, y2, y3, y4⟩, _⟩ := five_room hg3w BR2.out
              go_upto_region 16 with fail
              rw [← HV3.out]
              clear c0 c1 c2 c3 c4 f0 f1 f2 f3 f4 m0 m1 m2 m3 m4 y0 y1 y2 y3 y4
              obtain ⟨⟨c0, c1, c2, c3, c4⟩, ⟨f0, f1, f2, f3, f4⟩, _⟩ := five_room (grown_refl V3 none) BQ3.out
              obtain ⟨⟨m0, m1, m2, m3, m4⟩, ⟨y0, y1, y2, y3, y4⟩, _⟩ := five_room (grown_refl V3 none) BR3.out
              rw [← Hp3.out, ← Hs3.out] at HEN
              have EN : Hid (EndsAt b s3 (⟨(n : Int), p1, p2, [], p3⟩ : Rq)) := HEN
              clear HEN HE0 HE2 HE3 HE4 IN NA
              have HRQ0 : Hid (RqIs V3 (.agg #[.int .i64 (n : Int), .slice xa1 p1.length xc1, .slice xa2 p2.length xc2, .slice none 0 0, .slice xa3 p3.length xc3]) (⟨(n : Int), p1, p2, [], p3⟩ : Rq)) := ⟨_, _, _, _, rfl, O1_3.out.slice, O2_3.out.slice, sliceIs_nil _, O3_3.out.slice⟩
              have HFT : Hid (RqFits (⟨(n : Int), p1, p2, [], p3⟩ : Rq)) := ⟨by show -9223372036854775808 ≤ (n : Int) ∧ (n : Int) ≤ 9223372036854775807; omega, (by show p1.length ≤ _; omega), (by show p2.length ≤ _; omega), (by simp), (by show p3.length ≤ _; omega)⟩
              cases ho : s3 with
              | none =>
                obtain ⟨e1, e2⟩ := EN.out.none ho
                have HZ1 : Hid (Z = 14) := by show _ = _; rw [HZ.out, e1]
                have HQ1 : Hid (Q = noRq) := by show _ = _; rw [HQ.out, e2]
                have hQ5 := five_set BR3.out (.int .i64 0) (.slice none 0 0) (.slice none 0 0) (.slice none 0 0) (.slice none 0 0)
                obtain ⟨⟨r0, r1, r2, r3, r4⟩, hfz, _⟩ := five_room (grown_refl _ none) hQ5
                have hgQ := five_grown GW3.out HRw.out (.int .i64 0) (.slice none 0 0) (.slice none 0 0) (.slice none 0 0) (.slice none 0 0)
                clear e1 e2 hQ5 hfz ho c1 c2 c3 c4 f0 f1 f2 f3 f4 HRQ0 HFT EN HZ HQ PC PS PL CK
                rw [show atI none = -1 from rfl]
                go_wp2
                refine bodyPost_ret (v := .tuple #[.agg #[.int .i64 0, .slice none 0 0, .slice none 0 0, .slice none 0 0, .slice none 0 0], .int .i64 14]) (by simp [results, Tryd.results17, go_sem, r0, r1, r2, r3, r4]) rfl ?_
                exact ⟨_, by rw [HZ1.out], by rw [HQ1.out]; exact rqIs_no _, hgQ⟩
              | some m =>
                have HM : Hid (s3 = some m) := ho
                rw [show atI (some m) = (m : Int) from rfl]
                have i6 : decide ((m : Int) < 0) = false := decide_eq_false (by omega)
                have hmle : m ≤ b.length := EN.out.few _ HM.out
                by_cases hlt : m < b.length
                · obtain ⟨e1, e2⟩ := EN.out.more _ HM.out hlt
                  have HZ1 : Hid (Z = 4) := by show _ = _; rw [HZ.out, e1]
                  have HQ1 : Hid (Q = noRq) := by show _ = _; rw [HQ.out, e2]
                  have hQ5 := five_set BR3.out (.int .i64 0) (.slice none 0 0) (.slice none 0 0) (.slice none 0 0) (.slice none 0 0)
                  obtain ⟨⟨r0, r1, r2, r3, r4⟩, hfz, _⟩ := five_room (grown_refl _ none) hQ5
                  have hgQ := five_grown GW3.out HRw.out (.int .i64 0) (.slice none 0 0) (.slice none 0 0) (.slice none 0 0) (.slice none 0 0)
                  have i5 : decide (((m : Int) : Int) < (b.length : Int)) = true := decide_eq_true (by omega)
                  have i7 : ((m : Int) : Int) < (b.length : Int) := by omega
                  have i8 : m < b.length := hlt
                  have i9 : decide (m < b.length) = true := decide_eq_true hlt
                  clear e1 e2 hQ5 hfz ho c1 c2 c3 c4 f0 f1 f2 f3 f4 HRQ0 HFT EN HZ HQ PC PS PL CK hlt hmle
                  go_wp2
                  refine bodyPost_ret (v := .tuple #[.agg #[.int .i64 0, .slice none 0 0, .slice none 0 0, .slice none 0 0, .slice none 0 0], .int .i64 4]) (by simp [results, Tryd.results17, go_sem, r0, r1, r2, r3, r4]) rfl ?_
                  exact ⟨_, by rw [HZ1.out], by rw [HQ1.out]; exact rqIs_no _, hgQ⟩
                · obtain ⟨e1, e2, e3⟩ := EN.out.all _ HM.out (by omega)
                  have HZ1 : Hid (Z = reqE (⟨(n : Int), p1, p2, [], p3⟩ : Rq)) := by show _ = _; rw [HZ.out, e1]
                  have HQ1 : Hid (reqE (⟨(n : Int), p1, p2, [], p3⟩ : Rq) = 0 → Q = (⟨(n : Int), p1, p2, [], p3⟩ : Rq)) := fun h => by rw [HQ.out, e2 h]
                  have HQ2 : Hid (reqE (⟨(n : Int), p1, p2, [], p3⟩ : Rq) ≠ 0 → Q = noRq) := fun h => by rw [HQ.out, e3 h]
                  have CK1 : Hid (Calls Tryd.prog 11 #[.agg #[.int .i64 (n : Int), .slice xa1 p1.length xc1, .slice xa2 p2.length xc2, .slice none 0 0, .slice xa3 p3.length xc3]] V3 fun e w'' => e = .returned (.int .i64 (reqE (⟨(n : Int), p1, p2, [], p3⟩ : Rq))) ∧ V3.grownBy w'' none) := CK.out _ _ _ HRQ0.out HFT.out
                  have i5 : decide (((m : Int) : Int) < (b.length : Int)) = false := decide_eq_false (by omega)
                  have i7 : ¬ ((m : Int) : Int) < (b.length : Int) := by omega
                  have i8 : ¬ m < b.length := hlt
                  have i9 : decide (m < b.length) = false := decide_eq_false hlt
                  clear e1 e2 e3 EN HZ HQ PC PS PL CK hlt hmle ho
                  obtain ⟨RR, hRR⟩ : ∃ RR, RR = (⟨(n : Int), p1, p2, [], p3⟩ : Rq) := ⟨_, rfl⟩
                  rw [← hRR] at HZ1 HQ1 HQ2 CK1
                  have HRR : Hid (RR = (⟨(n : Int), p1, p2, [], p3⟩ : Rq)) := hRR
                  clear hRR
                  generalize reqE RR = FE at *
                  go_wp2_with fail
                  refine CK1.out.mono ?_
                  rintro e w8 ⟨rfl, hg8⟩
                  clear c0 c1 c2 c3 c4 f0 f1 f2 f3 f4 m0 m1 m2 m3 m4 y0 y1 y2 y3 y4
                  obtain ⟨⟨c0, c1, c2, c3, c4⟩, hfz, _⟩ := five_room hg8 BQ3.out
                  clear hfz
                  obtain ⟨⟨m0, m1, m2, m3, m4⟩, ⟨y0, y1, y2, y3, y4⟩, hR8⟩ := five_room hg8 BR3.out
                  have hgw8 := grown_trans GW3.out hg8
                  by_cases hz : FE = 0
                  · have hzb : (FE != 0) = false := by simp [hz]
                    have HZ2 : Hid (Z = 0) := by show _ = _; rw [HZ1.out, hz]
                    have HQ3 : Hid (Q = RR) := HQ1.out hz
                    have hQ5 := five_set hR8 (.int .i64 (n : Int)) (.slice xa1 p1.length xc1) (.slice xa2 p2.length xc2) (.slice none 0 0) (.slice xa3 p3.length xc3)
                    obtain ⟨⟨r0, r1, r2, r3, r4⟩, hfz, _⟩ := five_room (grown_refl _ none) hQ5
                    have hgQ := five_grown hgw8 HRw.out (.int .i64 (n : Int)) (.slice xa1 p1.length xc1) (.slice xa2 p2.length xc2) (.slice none 0 0) (.slice xa3 p3.length xc3)
                    have HRES : Hid (RqIs (set5 w8 RB (.int .i64 (n : Int)) (.slice xa1 p1.length xc1) (.slice xa2 p2.length xc2) (.slice none 0 0) (.slice xa3 p3.length xc3)) (.agg #[.int .i64 (n : Int), .slice xa1 p1.length xc1, .slice xa2 p2.length xc2, .slice none 0 0, .slice xa3 p3.length xc3]) RR) := by rw [HRR.out]; exact ⟨_, _, _, _, rfl, ((O1_3.out.grownNone hg8).lateR5 HRb.out _ _ _ _ _).slice, ((O2_3.out.grownNone hg8).lateR5 HRb.out _ _ _ _ _).slice, sliceIs_nil _, ((O3_3.out.grownNone hg8).lateR5 HRb.out _ _ _ _ _).slice⟩
                    clear hQ5 hfz hz HZ1 HQ1 HQ2 hR8
                    go_wp2
                    refine bodyPost_ret (v := .tuple #[.agg #[.int .i64 (n : Int), .slice xa1 p1.length xc1, .slice xa2 p2.length xc2, .slice none 0 0, .slice xa3 p3.length xc3], .int .i64 0]) (by simp [results, Tryd.results17, go_sem, r0, r1, r2, r3, r4]) rfl ?_
                    exact ⟨_, by rw [HZ2.out], by rw [HQ3.out]; exact HRES.out, hgQ⟩
                  · have hzb : (FE != 0) = true := by simp [hz]
                    have HQ3 : Hid (Q = noRq) := HQ2.out hz
                    have hQ5 := five_set hR8 (.int .i64 0) (.slice none 0 0) (.slice none 0 0) (.slice none 0 0) (.slice none 0 0)
                    obtain ⟨⟨r0, r1, r2, r3, r4⟩, hfz, _⟩ := five_room (grown_refl _ none) hQ5
                    have hgQ := five_grown hgw8 HRw.out (.int .i64 0) (.slice none 0 0) (.slice none 0 0) (.slice none 0 0) (.slice none 0 0)
                    clear hQ5 hfz hz HQ1 HQ2 hR8
                    go_wp2
                    refine bodyPost_ret (v := .tuple #[.agg #[.int .i64 0, .slice none 0 0, .slice none 0 0, .slice none 0 0, .slice none 0 0], .int .i64 FE]) (by simp [results, Tryd.results17, go_sem, r0, r1, r2, r3, r4]) rfl ?_
                    exact ⟨_, by rw [HZ1.out], by rw [HQ3.out]; exact rqIs_no _, hgQ⟩
            · have i3 : ((n : Int) == 3) = false := by simp [hk3]
              have i4 : ((n : Int) == 4) = false := by simp [hk4]
              have HEN := HE2.out HK.out hNK hk3 hk4
              rw [← Hp1.out, ← Hs1.out, ← Hp2.out, ← Hs2.out] at HEN
              clear hNK hk3 hk4
              have EN : Hid (EndsAt b s2 (⟨(n : Int), p1, p2, [], []⟩ : Rq)) := HEN
              clear HEN HE0 HE2 HE3 HE4 IN NA
              have HRQ0 : Hid (RqIs V2 (.agg #[.int .i64 (n : Int), .slice xa1 p1.length xc1, .slice xa2 p2.length xc2, .slice none 0 0, .slice none 0 0]) (⟨(n : Int), p1, p2, [], []⟩ : Rq)) := ⟨_, _, _, _, rfl, O1_2.out.slice, O2_2.out.slice, sliceIs_nil _, sliceIs_nil _⟩
              have HFT : Hid (RqFits (⟨(n : Int), p1, p2, [], []⟩ : Rq)) := ⟨by show -9223372036854775808 ≤ (n : Int) ∧ (n : Int) ≤ 9223372036854775807; omega, (by show p1.length ≤ _; omega), (by show p2.length ≤ _; omega), (by simp), (by simp)⟩
              cases ho : s2 with
              | none =>
                obtain ⟨e1, e2⟩ := EN.out.none ho
                have HZ1 : Hid (Z = 14) := by show _ = _; rw [HZ.out, e1]
                have HQ1 : Hid (Q = noRq) := by show _ = _; rw [HQ.out, e2]
                have hQ5 := five_set BR2.out (.int .i64 0) (.slice none 0 0) (.slice none 0 0) (.slice none 0 0) (.slice none 0 0)
                obtain ⟨⟨r0, r1, r2, r3, r4⟩, hfz, _⟩ := five_room (grown_refl _ none) hQ5
                have hgQ := five_grown GW2.out HRw.out (.int .i64 0) (.slice none 0 0) (.slice none 0 0) (.slice none 0 0) (.slice none 0 0)
                clear e1 e2 hQ5 hfz ho c1 c2 c3 c4 f0 f1 f2 f3 f4 HRQ0 HFT EN HZ HQ PC PS PL CK
                rw [show atI none = -1 from rfl]
                go_wp2
                refine bodyPost_ret (v := .tuple #[.agg #[.int .i64 0, .slice none 0 0, .slice none 0 0, .slice none 0 0, .slice none 0 0], .int .i64 14]) (by simp [results, Tryd.results17, go_sem, r0, r1, r2, r3, r4]) rfl ?_
                exact ⟨_, by rw [HZ1.out], by rw [HQ1.out]; exact rqIs_no _, hgQ⟩
              | some m =>
                have HM : Hid (s2 = some m) := ho
                rw [show atI (some m) = (m : Int) from rfl]
                have i6 : decide ((m : Int) < 0) = false := decide_eq_false (by omega)
                have hmle : m ≤ b.length := EN.out.few _ HM.out
                by_cases hlt : m < b.length
                · obtain ⟨e1, e2⟩ := EN.out.more _ HM.out hlt
                  have HZ1 : Hid (Z = 4) := by show _ = _; rw [HZ.out, e1]
                  have HQ1 : Hid (Q = noRq) := by show _ = _; rw [HQ.out, e2]
                  have hQ5 := five_set BR2.out (.int .i64 0) (.slice none 0 0) (.slice none 0 0) (.slice none 0 0) (.slice none 0 0)
                  obtain ⟨⟨r0, r1, r2, r3, r4⟩, hfz, _⟩ := five_room (grown_refl _ none) hQ5
                  have hgQ := five_grown GW2.out HRw.out (.int .i64 0) (.slice none 0 0) (.slice none 0 0) (.slice none 0 0) (.slice none 0 0)
                  have i5 : decide (((m : Int) : Int) < (b.length : Int)) = true := decide_eq_true (by omega)
                  have i7 : ((m : Int) : Int) < (b.length : Int) := by omega
                  have i8 : m < b.length := hlt
                  have i9 : decide (m < b.length) = true := decide_eq_true hlt
                  clear e1 e2 hQ5 hfz ho c1 c2 c3 c4 f0 f1 f2 f3 f4 HRQ0 HFT EN HZ HQ PC PS PL CK hlt hmle
                  go_wp2
                  refine bodyPost_ret (v := .tuple #[.agg #[.int .i64 0, .slice none 0 0, .slice none 0 0, .slice none 0 0, .slice none 0 0], .int .i64 4]) (by simp [results, Tryd.results17, go_sem, r0, r1, r2, r3, r4]) rfl ?_
                  exact ⟨_, by rw [HZ1.out], by rw [HQ1.out]; exact rqIs_no _, hgQ⟩
                · obtain ⟨e1, e2, e3⟩ := EN.out.all _ HM.out (by omega)
                  have HZ1 : Hid (Z = reqE (⟨(n : Int), p1, p2, [], []⟩ : Rq)) := by show _ = _; rw [HZ.out, e1]
                  have HQ1 : Hid (reqE (⟨(n : Int), p1, p2, [], []⟩ : Rq) = 0 → Q = (⟨(n : Int), p1, p2, [], []⟩ : Rq)) := fun h => by rw [HQ.out, e2 h]
                  have HQ2 : Hid (reqE (⟨(n : Int), p1, p2, [], []⟩ : Rq) ≠ 0 → Q = noRq) := fun h => by rw [HQ.out, e3 h]
                  have CK1 : Hid (Calls Tryd.prog 11 #[.agg #[.int .i64 (n : Int), .slice xa1 p1.length xc1, .slice xa2 p2.length xc2, .slice none 0 0, .slice none 0 0]] V2 fun e w'' => e = .returned (.int .i64 (reqE (⟨(n : Int), p1, p2, [], []⟩ : Rq))) ∧ V2.grownBy w'' none) := CK.out _ _ _ HRQ0.out HFT.out
                  have i5 : decide (((m : Int) : Int) < (b.length : Int)) = false := decide_eq_false (by omega)
                  have i7 : ¬ ((m : Int) : Int) < (b.length : Int) := by omega
                  have i8 : ¬ m < b.length := hlt
                  have i9 : decide (m < b.length) = false := decide_eq_false hlt
                  clear e1 e2 e3 EN HZ HQ PC PS PL CK hlt hmle ho
                  obtain ⟨RR, hRR⟩ : ∃ RR, RR = (⟨(n : Int), p1, p2, [], []⟩ : Rq) := ⟨_, rfl⟩
                  rw [← hRR] at HZ1 HQ1 HQ2 CK1
                  have HRR : Hid (RR = (⟨(n : Int), p1, p2, [], []⟩ : Rq)) := hRR
                  clear hRR
                  generalize reqE RR = FE at *
                  go_wp2_with fail
                  refine CK1.out.mono ?_
                  rintro e w8 ⟨rfl, hg8⟩
                  clear c0 c1 c2 c3 c4 f0 f1 f2 f3 f4 m0 m1 m2 m3 m4 y0 y1 y2 y3 y4
                  obtain ⟨⟨c0, c1, c2, c3, c4⟩, hfz, _⟩ := five_room hg8 BQ2.out
                  clear hfz
                  obtain ⟨⟨m0, m1, m2, m3, m4⟩, ⟨y0, y1, y2, y3, y4⟩, hR8⟩ := five_room hg8 BR2.out
                  have hgw8 := grown_trans GW2.out hg8
                  by_cases hz : FE = 0
                  · have hzb : (FE != 0) = false := by simp [hz]
                    have HZ2 : Hid (Z = 0) := by show _ = _; rw [HZ1.out, hz]
                    have HQ3 : Hid (Q = RR) := HQ1.out hz
                    have hQ5 := five_set hR8 (.int .i64 (n : Int)) (.slice xa1 p1.length xc1) (.slice xa2 p2.length xc2) (.slice none 0 0) (.slice none 0 0)
                    obtain ⟨⟨r0, r1, r2, r3, r4⟩, hfz, _⟩ := five_room (grown_refl _ none) hQ5
                    have hgQ := five_grown hgw8 HRw.out (.int .i64 (n : Int)) (.slice xa1 p1.length xc1) (.slice xa2 p2.length xc2) (.slice none 0 0) (.slice none 0 0)
                    have HRES : Hid (RqIs (set5 w8 RB (.int .i64 (n : Int)) (.slice xa1 p1.length xc1) (.slice xa2 p2.length xc2) (.slice none 0 0) (.slice none 0 0)) (.agg #[.int .i64 (n : Int), .slice xa1 p1.length xc1, .slice xa2 p2.length xc2, .slice none 0 0, .slice none 0 0]) RR) := by rw [HRR.out]; exact ⟨_, _, _, _, rfl, ((O1_2.out.grownNone hg8).lateR5 HRb.out _ _ _ _ _).slice, ((O2_2.out.grownNone hg8).lateR5 HRb.out _ _ _ _ _).slice, sliceIs_nil _, sliceIs_nil _⟩
                    clear hQ5 hfz hz HZ1 HQ1 HQ2 hR8
                    go_wp2
                    refine bodyPost_ret (v := .tuple #[.agg #[.int .i64 (n : Int), .slice xa1 p1.length xc1, .slice xa2 p2.length xc2, .slice none 0 0, .slice none 0 0], .int .i64 0]) (by simp [results, Tryd.results17, go_sem, r0, r1, r2, r3, r4]) rfl ?_
                    exact ⟨_, by rw [HZ2.out], by rw [HQ3.out]; exact HRES.out, hgQ⟩
                  · have hzb : (FE != 0) = true := by simp [hz]
                    have HQ3 : Hid (Q = noRq) := HQ2.out hz
                    have hQ5 := five_set hR8 (.int .i64 0) (.slice none 0 0) (.slice none 0 0) (.slice none 0 0) (.slice none 0 0)
                    obtain ⟨⟨r0, r1, r2, r3, r4⟩, hfz, _⟩ := five_room (grown_refl _ none) hQ5
                    have hgQ := five_grown hgw8 HRw.out (.int .i64 0) (.slice none 0 0) (.slice none 0 0) (.slice none 0 0) (.slice none 0 0)
                    clear hQ5 hfz hz HQ1 HQ2 hR8
                    go_wp2
                    refine bodyPost_ret (v := .tuple #[.agg #[.int .i64 0, .slice none 0 0, .slice none 0 0, .slice none 0 0, .slice none 0 0], .int .i64 FE]) (by simp [results, Tryd.results17, go_sem, r0, r1, r2, r3, r4]) rfl ?_
                    exact ⟨_, by rw [HZ1.out], by rw [HQ3.out]; exact rqIs_no _, hgQ⟩
      · rw [decide_eq_false hk]
        obtain ⟨e1, e2⟩ := EK hk
        have HZ1 : Hid (Z = 5) := by show _ = _; rw [HZ.out, e1]
        have HQ1 : Hid (Q = noRq) := by show _ = _; rw [HQ.out, e2]
        have hQ5 := five_set BR0.out (.int .i64 0) (.slice none 0 0) (.slice none 0 0) (.slice none 0 0) (.slice none 0 0)
        obtain ⟨⟨r0, r1, r2, r3, r4⟩, hfz, _⟩ := five_room (grown_refl _ none) hQ5
        have hgQ := five_grown hg01 HRw.out (.int .i64 0) (.slice none 0 0) (.slice none 0 0) (.slice none 0 0) (.slice none 0 0)
        clear e1 e2 hQ5 hfz EK hk
        go_wp2
        refine bodyPost_ret (v := .tuple #[.agg #[.int .i64 0, .slice none 0 0, .slice none 0 0, .slice none 0 0, .slice none 0 0], .int .i64 5]) (by simp [results, Tryd.results17, go_sem, r0, r1, r2, r3, r4]) rfl ?_
        exact ⟨_, by rw [HZ1.out], by rw [HQ1.out]; exact rqIs_no _, hgQ⟩
end Go.Proofs.YtghjikifflpeiaaDoor
