/-
  The walk of the document's answer to P8.3: Noted.
-/
import Derived.Test.YtpmfbfflacbmjaaRTx6
namespace Go.Proofs.Ytpmfbfflacbmjaa
open Go.RowKit
set_option maxRecDepth 100000 in
set_option maxHeartbeats 4000000 in
theorem noted_any (w : World) (v u : Value) (t : Tx) (r : Rd) (hv : TxIs w v t) (hf : FitsX t) (hu : ReadIs w u r) (hr : RdFits r) :
    Calls Try.prog 15 #[v, u] w fun e w' => ∃ x, e = .returned (.tuple #[x, .int .i64 (noteE t r)]) ∧ TxIs w' x (noteT t r) ∧ w.grownBy w' none := by
  obtain ⟨ra, rc, wa, wc, rfl⟩ := hv.agg
  obtain ⟨na, nc, ka, kc, la, lc, rfl⟩ := hu.agg
  obtain ⟨_, hrd, _⟩ := hv.parts
  obtain ⟨W1, HW1, hg1, B1⟩ := alloc_namedX w (.cells #[.int .i64 t.start, .slice ra t.reads.length rc, .slice wa t.writes.length wc] 25)
  obtain ⟨W2, HW2, hg2, B2⟩ := alloc_namedX W1 (.cells #[.slice na r.name.length nc, .slice ka r.key.length kc, .bool r.wide, .slice la r.last.length lc] 33)
  obtain ⟨W3, HW3, hg3, B3⟩ := alloc_namedX W2 (.cells #[.int .i64 0, .slice none 0 0, .slice none 0 0] 25)
  have s1 : W1.heap.size = w.heap.size + 1 := by rw [HW1.out]; simp
  have s2 : W2.heap.size = w.heap.size + 1 + 1 := by rw [HW2.out]; simp [s1]
  rw [s1] at B2
  rw [s2] at B3
  have hg23 := grown_trans hg2 hg3
  have hg03 := grown_trans hg1 hg23
  have I3 : Hid (W3.heap[w.heap.size]? = some (.cells #[.int .i64 t.start, .slice ra t.reads.length rc, .slice wa t.writes.length wc] 25)) := pair_old hg23 B1.out
  have Q3 : Hid (W3.heap[w.heap.size + 1]? = some (.cells #[.slice na r.name.length nc, .slice ka r.key.length kc, .bool r.wide, .slice la r.last.length lc] 33)) := pair_old hg3 B2.out
  have HX : Hid (W3 = ((w.alloc (.cells #[.int .i64 t.start, .slice ra t.reads.length rc, .slice wa t.writes.length wc] 25)).alloc (.cells #[.slice na r.name.length nc, .slice ka r.key.length kc, .bool r.wide, .slice la r.last.length lc] 33)).alloc (.cells #[.int .i64 0, .slice none 0 0, .slice none 0 0] 25)) := by show _ = _; rw [HW3.out, HW2.out, HW1.out]
  have HV : Hid (TxIs W3 (.agg #[.int .i64 t.start, .slice ra t.reads.length rc, .slice wa t.writes.length wc]) t) := hv.grown hg03
  have HU : Hid (ReadIs W3 (.agg #[.slice na r.name.length nc, .slice ka r.key.length kc, .bool r.wide, .slice la r.last.length lc]) r) := hu.grown hg03
  have HRD : Hid (ReadsIs W3 (.slice ra t.reads.length rc) t.reads) := hrd.grown hg03
  have TF : Hid (Calls Try.prog 11 #[.agg #[.int .i64 t.start, .slice ra t.reads.length rc, .slice wa t.writes.length wc]] W3 fun e w' => e = .returned (.int .i64 (txE t)) ∧ W3.grownBy w' none) := txnFault_any W3 _ t HV.out hf
  have RF : Hid (∀ w', W3.grownBy w' none → Calls Try.prog 34 #[.agg #[.slice na r.name.length nc, .slice ka r.key.length kc, .bool r.wide, .slice la r.last.length lc]] w' fun e w'' => e = .returned (.int .i64 (readE r)) ∧ w'.grownBy w'' none) := fun w' h => readFault_any w' _ r (HU.out.grown h)
  have CP : Hid (∀ w', W3.grownBy w' none → Calls Try.prog 9 #[.agg #[.int .i64 t.start, .slice ra t.reads.length rc, .slice wa t.writes.length wc]] w' fun e w'' => ∃ r1 r2 r3 r4, e = .returned (.agg #[.int .i64 t.start, .slice r1 t.reads.length r2, .slice r3 t.writes.length r4]) ∧ OwnR w'.heap.size 0 w'' (.slice r1 t.reads.length r2) t.reads ∧ OwnV w'.heap.size 0 w'' (.slice r3 t.writes.length r4) t.writes ∧ w'.grownBy w'' none) := fun w' h => txnCopy_any w' _ t (HV.out.grown h) hf
  have RC : Hid (∀ w', W3.grownBy w' none → Calls Try.prog 14 #[.agg #[.slice na r.name.length nc, .slice ka r.key.length kc, .bool r.wide, .slice la r.last.length lc]] w' fun e w'' => ∃ x1 x2 x3 x4 x5 x6, e = .returned (.agg #[.slice x1 r.name.length x2, .slice x3 r.key.length x4, .bool r.wide, .slice x5 r.last.length x6]) ∧ PartIs 0 w'' (.slice x1 r.name.length x2) r.name ∧ PartIs 0 w'' (.slice x3 r.key.length x4) r.key ∧ PartIs 0 w'' (.slice x5 r.last.length x6) r.last ∧ w'.grownBy w'' none) := fun w' h => readCopy_any w' _ r (HU.out.grown h) hr
  obtain ⟨Z, hZ⟩ : ∃ Z, Z = noteE t r := ⟨_, rfl⟩
  obtain ⟨ZT, hZT⟩ : ∃ ZT, ZT = noteT t r := ⟨_, rfl⟩
  have HB1 : Hid (txE t ≠ 0 → Z = txE t ∧ ZT = ⟨0, [], []⟩) := fun h => by
    have e : noteE t r = txE t := by rw [noteE, if_neg h]
    exact ⟨by rw [hZ, e], by rw [hZT, noteT, e, if_neg h]; rfl⟩
  have HB2 : Hid (txE t = 0 → readE r ≠ 0 → Z = readE r ∧ ZT = ⟨0, [], []⟩) := fun h0 h => by
    have e : noteE t r = readE r := by rw [noteE, if_pos h0, if_neg h]
    exact ⟨by rw [hZ, e], by rw [hZT, noteT, e, if_neg h]; rfl⟩
  have HB3 : Hid (txE t = 0 → readE r = 0 → hasR t r = true → Z = 0 ∧ ZT = ⟨t.start, t.reads, t.writes⟩) := fun h0 h1 h => by
    have e : noteE t r = 0 := by rw [noteE, if_pos h0, if_pos h1, if_pos h]
    exact ⟨by rw [hZ, e], by rw [hZT, noteT, if_pos e, if_pos h]⟩
  have HB4 : Hid (txE t = 0 → readE r = 0 → hasR t r = false → t.reads.length = 20 → Z = 11 ∧ ZT = ⟨0, [], []⟩) := fun h0 h1 h h2 => by
    have e : noteE t r = 11 := by rw [noteE, if_pos h0, if_pos h1, h, if_neg (by decide), if_pos h2]
    exact ⟨by rw [hZ, e], by rw [hZT, noteT, e, if_neg (by decide)]; rfl⟩
  have HB5 : Hid (txE t = 0 → readE r = 0 → hasR t r = false → t.reads.length ≠ 20 → Z = 0 ∧ ZT = ⟨t.start, t.reads ++ [r], t.writes⟩) := fun h0 h1 h h2 => by
    have e : noteE t r = 0 := by rw [noteE, if_pos h0, if_pos h1, h, if_neg (by decide), if_neg h2]
    exact ⟨by rw [hZ, e], by rw [hZT, noteT, if_pos e, h, if_neg (by decide)]⟩
  have HHR : Hid (hasR t r = t.reads.any (fun q => rdSame q r)) := rfl
  have HTX : Hid (txE t = 0 → t.reads.length ≤ 20) := fun h => ((tx_iff t).1 h).reads
  rw [← hZ, ← hZT]
  clear hZ hZT hv hu hrd hf hr s1 s2 B1 B2 HW1 HW2 HW3
  go_enter Try.func15, Try.ntmps15
  go_upto_region 1 with fail
  rw [← HX.out]
  obtain ⟨RB, hRB⟩ : ∃ RB, RB = w.heap.size + 1 + 1 := ⟨_, rfl⟩
  obtain ⟨QB, hQB⟩ : ∃ QB, QB = w.heap.size + 1 := ⟨_, rfl⟩
  obtain ⟨IB, hIB⟩ : ∃ IB, IB = w.heap.size := ⟨_, rfl⟩
  have wRB : w.heap.size ≤ RB := by omega
  rw [← hRB] at B3 ⊢
  rw [← hQB] at Q3 ⊢
  rw [← hIB] at I3 ⊢
  clear hRB hQB hIB HX
  obtain ⟨⟨c0, c1, c2⟩, _⟩ := trip_room2 I3.out
  go_wp2_with fail
  refine TF.out.mono ?_
  rintro e w4 ⟨rfl, hg4⟩
  clear c0 c1 c2
  by_cases h0 : txE t = 0
  · obtain ⟨⟨q0, q1, q2, q3⟩, _⟩ := quad_room hg4 Q3.out
    rw [h0] at TF ⊢
    go_wp2_with fail
    refine (RF.out _ hg4).mono ?_
    rintro e w5 ⟨rfl, hg5⟩
    have hg35 := grown_trans hg4 hg5
    clear q0 q1 q2 q3
    by_cases h1 : readE r = 0
    · rw [h1]
      obtain ⟨⟨c0, c1, c2⟩, _⟩ := trip_room2 (pair_old hg35 I3.out)
      go_wp2_with fail
      refine (CP.out _ hg35).mono ?_
      rintro e w6 ⟨va, vc, ua, uc, rfl, hoR, hoV, hg6⟩
      obtain ⟨W7, HW7, hg7, B7⟩ := alloc_namedX w6 (.cells #[.int .i64 t.start, .slice va t.reads.length vc, .slice ua t.writes.length uc] 25)
      have hg67 := grown_trans hg6 hg7
      have hg37 := grown_trans hg35 hg67
      have hg07 := grown_trans hg03 hg37
      have O7 : Hid (OwnR w5.heap.size 0 W7 (.slice va t.reads.length vc) t.reads) := hoR.grownNone hg7
      have V7 : Hid (OwnV w5.heap.size 0 W7 (.slice ua t.writes.length uc) t.writes) := hoV.grownNone hg7
      have wR5 : w.heap.size ≤ w5.heap.size := (grown_trans hg03 hg35).size
      have hr57 : w5.heap.size ≤ W7.heap.size := hg67.size
      have nRO : RB ≠ w6.heap.size := by
        have := (Array.getElem?_eq_some_iff.1 (pair_old (grown_trans hg35 hg6) B3.out)).1
        omega
      have wOB : w.heap.size ≤ w6.heap.size := (grown_trans (grown_trans hg03 hg35) hg6).size
      have HC3 : Hid (t.reads.any (fun q => rdSame q r) = true → Z = 0 ∧ ZT = ⟨t.start, t.reads, t.writes⟩) := fun h => HB3.out h0 h1 (by rw [HHR.out]; exact h)
      have HC4 : Hid (t.reads.any (fun q => rdSame q r) = false → t.reads.length = 20 → Z = 11 ∧ ZT = ⟨0, [], []⟩) := fun h => HB4.out h0 h1 (by rw [HHR.out]; exact h)
      have HC5 : Hid (t.reads.any (fun q => rdSame q r) = false → t.reads.length ≠ 20 → Z = 0 ∧ ZT = ⟨t.start, t.reads ++ [r], t.writes⟩) := fun h => HB5.out h0 h1 (by rw [HHR.out]; exact h)
      have h20 := HTX.out h0
      go_upto_region 8 with fail
      rw [← HW7.out]
      clear HB1 HB2 HB3 HB4 HB5 HHR HTX h0 h1 c0 c1 c2 TF RF CP HV HW7 hoR hoV hg4 hg5 hg6 hg7 hg23 hg67
      obtain ⟨OB, hOB⟩ : ∃ OB, OB = w6.heap.size := ⟨_, rfl⟩
      obtain ⟨rb, hrb⟩ : ∃ rb, rb = w5.heap.size := ⟨_, rfl⟩
      have hrb7 : rb ≤ W7.heap.size := by rw [hrb]; exact hr57
      rw [← hOB] at B7 wOB nRO ⊢
      rw [← hrb] at O7 V7 wR5
      clear hOB hrb hr57
      generalize t.reads = R at *
      generalize t.writes = V at *
      generalize t.start = st at *
      go_loopw [8] (fun s8 wr => ∃ m : Nat, s8 = .int .i64 (m : Int) ∧ m ≤ R.length ∧ (R.take m).any (fun q => rdSame q r) = false ∧ W7.grownBy wr none) (fun s8 _ => R.length - (intOf s8).toNat)
      case atStart => exact ⟨0, rfl, by omega, by simp, grown_refl _ _⟩
      case round =>
        obtain ⟨m, rfl, hm, han, hg⟩ := hrel
        have hg3r := grown_trans hg37 hg
        obtain ⟨c0, c1, c2⟩ := trip_room hg3r I3.out
        by_cases hlt : m < R.length
        · have i1 : (m : Int) < (R.length : Int) := by omega
          obtain ⟨b, o, rfl, y1, y2, y3, y4, y5, y6, ⟨x1w, x2w, x3w, x4w⟩, hrd⟩ := reads_cells HRD.out m hlt
          have z1 := hg3r.cell x1w (by simp)
          have z2 := hg3r.cell x2w (by simp)
          have z3 := hg3r.cell x3w (by simp)
          have z4 := hg3r.cell x4w (by simp)
          obtain ⟨⟨t1, t2, t3, t4⟩, _⟩ := quad_room hg3r Q3.out
          have SR : Hid (∀ w', W3.grownBy w' none → Calls Try.prog 35 #[.agg #[.slice y1 (R.getD m noRd).name.length y2, .slice y3 (R.getD m noRd).key.length y4, .bool (R.getD m noRd).wide, .slice y5 (R.getD m noRd).last.length y6], .agg #[.slice na r.name.length nc, .slice ka r.key.length kc, .bool r.wide, .slice la r.last.length lc]] w' fun e w'' => e = .returned (.bool (rdSame (R.getD m noRd) r)) ∧ w'.grownBy w'' none) := fun w' h => sameRead_any w' _ _ _ _ (hrd.grown h) (HU.out.grown h)
          have HA1 : Hid ((R.take (m + 1)).any (fun q => rdSame q r) = ((R.take m).any (fun q => rdSame q r) || rdSame (R.getD m noRd) r)) := any_takeS noRd (fun q => rdSame q r) _ m hlt
          have HA2 : Hid (rdSame (R.getD m noRd) r = true → R.any (fun q => rdSame q r) = true) := fun h => by
            have := any_takeT noRd (fun q => rdSame q r) R m R.length hlt (Nat.le_refl _) h
            rw [List.take_length] at this; exact this
          have HAN : Hid ((R.take m).any (fun q => rdSame q r) = false) := han
          clear han hrd x1w x2w x3w x4w
          generalize rdSame (R.getD m noRd) r = BS at *
          generalize R.getD m noRd = P at *
          go_wp2_with fail
          have hgd : wr.grownBy wr.drew none := grown_drew (grown_refl _ _)
          have e0 := hgd.cell c1 (by simp)
          have e1 := hgd.cell z1 (by simp)
          have e2 := hgd.cell z2 (by simp)
          have e3 := hgd.cell z3 (by simp)
          have e4 := hgd.cell z4 (by simp)
          have f1 := hgd.cell t1 (by simp)
          have f2 := hgd.cell t2 (by simp)
          have f3 := hgd.cell t3 (by simp)
          have f4 := hgd.cell t4 (by simp)
          go_region_held3 (fun w' => w'.cell? ⟨IB, 1, none⟩ = some (.slice (some ⟨b, o, none⟩) R.length rc) ∧ w'.cell? ⟨b, o + m * 4, none⟩ = some (.slice y1 P.name.length y2) ∧ w'.cell? ⟨b, o + m * 4 + 1, none⟩ = some (.slice y3 P.key.length y4) ∧ w'.cell? ⟨b, o + m * 4 + 2, none⟩ = some (.bool P.wide) ∧ w'.cell? ⟨b, o + m * 4 + 3, none⟩ = some (.slice y5 P.last.length y6) ∧ w'.cell? ⟨QB, 0, none⟩ = some (.slice na r.name.length nc) ∧ w'.cell? ⟨QB, 1, none⟩ = some (.slice ka r.key.length kc) ∧ w'.cell? ⟨QB, 2, none⟩ = some (.bool r.wide) ∧ w'.cell? ⟨QB, 3, none⟩ = some (.slice la r.last.length lc))
            (first | exact ⟨e0, e1, e2, e3, e4, f1, f2, f3, f4⟩ | exact ⟨hg4.cell e0 (by simp), hg4.cell e1 (by simp), hg4.cell e2 (by simp), hg4.cell e3 (by simp), hg4.cell e4 (by simp), hg4.cell f1 (by simp), hg4.cell f2 (by simp), hg4.cell f3 (by simp), hg4.cell f4 (by simp)⟩)
            (first
              | (go_at_call 35; refine (SR.out _ (grown_trans hg3r hgd)).mono ?_; rintro e w4 ⟨rfl, hg4⟩))
          have hgw4 := grown_trans hg (grown_trans hgd hg4)
          clear e0 e1 e2 e3 e4 f1 f2 f3 f4 z1 z2 z3 z4 t1 t2 t3 t4 c0 c1 c2 SR
          cases BS with
          | true =>
            obtain ⟨e1, e2⟩ := HC3.out (HA2.out rfl)
            have HZ : Hid (Z = 0) := e1
            have HT : Hid (ZT = ⟨st, R, V⟩) := e2
            have R8 := pair_old (grown_trans hg37 hgw4) B3.out
            obtain ⟨⟨f0, f1, f2⟩, g0, g1, g2⟩ := trip_room2 R8
            obtain ⟨⟨p0, p1, p2⟩, _⟩ := trip_room2 (pair_old hgw4 B7.out)
            obtain ⟨⟨k0, k1, k2⟩, FR, FV, FG⟩ := res_set (st := st) R8 (O7.out.grownNone hgw4) (V7.out.grownNone hgw4) (grown_trans hg07 hgw4) wRB
            clear e1 e2 R8 HA1 HA2 HC3 HC4 HC5
            go_wp2
            refine bodyPost_ret (v := .tuple #[.agg #[.int .i64 st, .slice va R.length vc, .slice ua V.length uc], .int .i64 0]) (by simp [results, Try.results15, go_sem, k0, k1, k2]) rfl ?_
            exact ⟨_, ret_txE HZ.out, tx_of HT.out FR FV, FG⟩
          | false =>
            have HN : Hid ((R.take (m + 1)).any (fun q => rdSame q r) = false) := by show _ = _; rw [HA1.out, HAN.out]; rfl
            clear HA1 HA2
            go_wp2_with fail
            go_roundw
            case rel =>
              first
                | exact ⟨m + 1, by go_num, by omega, HN.out, hgw4⟩
                | ((repeat apply Exists.intro); refine ⟨⟨m + 1, ?_, by omega, HN.out, hgw4⟩, rfl⟩; go_num)
            case measure => simp [intOf]; omega
        · obtain rfl : m = R.length := by omega
          have i1 : ¬ (R.length : Int) < (R.length : Int) := by omega
          rw [List.take_length] at han
          by_cases hl : R.length = 20
          · obtain ⟨e1, e2⟩ := HC4.out han hl
            have HZ : Hid (Z = 11) := e1
            have HT : Hid (ZT = ⟨0, [], []⟩) := e2
            have i2 : ((R.length : Int) == 20) = true := by simp; omega
            have R8 := pair_old hg3r B3.out
            obtain ⟨⟨f0, f1, f2⟩, g0, g1, g2⟩ := trip_room2 R8
            obtain ⟨⟨k0, k1, k2⟩, FR, FV, FG⟩ := res_set (st := 0) R8 (ownR_nil w.heap.size 0 wr) (ownV_nil w.heap.size 0 wr) (grown_trans hg07 hg) wRB
            clear e1 e2 R8 HC3 HC4 HC5 han
            go_wp2
            refine bodyPost_ret (v := .tuple #[.agg #[.int .i64 0, .slice none 0 0, .slice none 0 0], .int .i64 11]) (by simp [results, Try.results15, go_sem, k0, k1, k2]) rfl ?_
            exact ⟨_, ret_txE HZ.out, tx_of HT.out FR FV, FG⟩
          · obtain ⟨e1, e2⟩ := HC5.out han hl
            have HZ : Hid (Z = 0) := e1
            have HT : Hid (ZT = ⟨st, R ++ [r], V⟩) := e2
            have i2 : ((R.length : Int) == 20) = false := by simp; omega
            obtain ⟨⟨t1, t2, t3, t4⟩, _⟩ := quad_room hg3r Q3.out
            clear e1 e2 HC3 HC4 HC5 han
            go_wp2_with fail
            refine (RC.out _ hg3r).mono ?_
            rintro e w2 ⟨x1, x2, x3, x4, x5, x6, rfl, p1, p2, p3, hg2⟩
            obtain ⟨W5, HW5, hg5, B5⟩ := alloc_namedX w2 (.cells #[.slice x1 r.name.length x2, .slice x3 r.key.length x4, .bool r.wide, .slice x5 r.last.length x6] 33)
            obtain ⟨⟨d0, d1, d2, d3⟩, _⟩ := quad_room (grown_refl W5 none) B5.out
            have hg25 := grown_trans hg (grown_trans hg2 hg5)
            obtain ⟨⟨o0, o1, o2⟩, k0, k1, k2⟩ := trip_room2 (pair_old hg25 B7.out)
            obtain ⟨W6, HW6, hg6, B6⟩ := alloc_namedX W5 (.cells #[.slice x1 r.name.length x2, .slice x3 r.key.length x4, .bool r.wide, .slice x5 r.last.length x6] 33)
            have hg26 := grown_trans hg25 hg6
            have A1 : Hid (OwnR rb 0 W6 (.slice va R.length vc) R) := O7.out.grownNone hg26
            have A6 : Hid (OwnV rb 0 W6 (.slice ua V.length uc) V) := V7.out.grownNone hg26
            have A2 : Hid (PartIs 0 W6 (.slice x1 r.name.length x2) r.name) := p1.keptT (grown_trans hg5 hg6) (.inl rfl)
            have A3 : Hid (PartIs 0 W6 (.slice x3 r.key.length x4) r.key) := p2.keptT (grown_trans hg5 hg6) (.inl rfl)
            have A4 : Hid (PartIs 0 W6 (.slice x5 r.last.length x6) r.last) := p3.keptT (grown_trans hg5 hg6) (.inl rfl)
            have A5 : Hid (rb ≤ W6.heap.size) := Nat.le_trans hrb7 hg26.size
            have HGW6 : Hid (w.grownBy W6 none) := grown_trans hg07 hg26
            have O6 : Hid (W6.heap[OB]? = some (.cells #[.int .i64 st, .slice va R.length vc, .slice ua V.length uc] 25)) := pair_old hg26 B7.out
            have R6 : Hid (W6.heap[RB]? = some (.cells #[.int .i64 0, .slice none 0 0, .slice none 0 0] 25)) := pair_old (grown_trans hg37 hg26) B3.out
            have HLN : Hid ((R ++ [r]).length = R.length + 1) := by show _ = _; rw [List.length_append]; rfl
            have hl80 : (R.length + 1) * 80 ≤ 140737488355328 := by omega
            go_upto_region 15 with fail
            rw [← HW5.out]
            clear p1 p2 p3 t1 t2 t3 t4 c0 c1 c2 hg2 hg5
            obtain ⟨PB, hPB⟩ : ∃ PB, PB = w2.heap.size := ⟨_, rfl⟩
            rw [← hPB] at d0 d1 d2 d3 B5 ⊢
            clear hPB
            rw [HW6.out] at A1 A2 A3 A4 A5 A6 O6 R6 HGW6
            clear hg26 hg25 hg6 HW6 B6
            go_wp2_with (at_builtin; refine wpList_append_rd rfl _ _ rfl rb (.slice va R.length vc) R rfl A1.out (.slice x1 r.name.length x2) (.slice x3 r.key.length x4) (.slice x5 r.last.length x6) r A2.out A3.out A4.out W5.heap.size (heap_alloc_new W5 _) rfl hl80 A5.out ?_; intro v7 w7 ho7 hg7; obtain ⟨a7, c7, e7⟩ := ho7.shape; rw [HLN.out] at e7; subst e7; have O8 := A1.out.block hg7 O6.out txTR; obtain ⟨⟨r0, r1, r2⟩, _, r4, _⟩ := trip_room2 O8; have N8 := set_self (i := 1) (u := .slice a7 (R.length + 1) c7) O8; obtain ⟨⟨n0, n1, n2⟩, _⟩ := trip_room2 (x := .int .i64 st) (y := .slice a7 (R.length + 1) c7) (z := .slice ua V.length uc) N8; have R8 : (w7.setCell ⟨OB, 1, none⟩ (.slice a7 (R.length + 1) c7)).heap[RB]? = some (.cells #[.int .i64 0, .slice none 0 0, .slice none 0 0] 25) := set_apart (A1.out.block hg7 R6.out txTR) nRO; obtain ⟨⟨f0, f1, f2⟩, g0, g1, g2⟩ := trip_room2 R8; have FX := res_set (st := st) R8 (ho7.setOther O8 txT5 txTR (Nat.zero_le _) (.slice a7 (R.length + 1) c7)) ((A6.out.keptR A1.out hg7).setOther O8 txT5 txTW (Nat.zero_le _) (.slice a7 (R.length + 1) c7)) (grown_setNew (grown_ownR HGW6.out A1.out wR5 hg7) _ wOB _ _) wRB; obtain ⟨⟨k0, k1, k2⟩, FR, FV, FG⟩ := FX)
            refine bodyPost_ret (v := .tuple #[.agg #[.int .i64 st, .slice a7 (R.length + 1) c7, .slice ua V.length uc], .int .i64 0]) (by simp [results, Try.results15, go_sem, k0, k1, k2]) rfl ?_
            exact ⟨_, ret_txE HZ.out, tx_of HT.out FR FV, FG⟩
    · obtain ⟨e1, e2⟩ := HB2.out h0 h1
      have HZ : Hid (Z = readE r) := e1
      have HT : Hid (ZT = ⟨0, [], []⟩) := e2
      have R5 := pair_old hg35 B3.out
      obtain ⟨⟨f0, f1, f2⟩, g0, g1, g2⟩ := trip_room2 R5
      obtain ⟨⟨k0, k1, k2⟩, FR, FV, FG⟩ := res_set (st := 0) R5 (ownR_nil w.heap.size 0 w5) (ownV_nil w.heap.size 0 w5) (grown_trans hg03 hg35) wRB
      generalize readE r = z at *
      have h1' : (z != 0) = true := by simpa using h1
      have h1'' : (z == 0) = false := by simpa using h1
      clear e1 e2 R5 h1
      go_wp2
      refine bodyPost_ret (v := .tuple #[.agg #[.int .i64 0, .slice none 0 0, .slice none 0 0], .int .i64 z]) (by simp [results, Try.results15, go_sem, k0, k1, k2]) rfl ?_
      exact ⟨_, ret_txE HZ.out, tx_of HT.out FR FV, FG⟩
  · obtain ⟨e1, e2⟩ := HB1.out h0
    have HZ : Hid (Z = txE t) := e1
    have HT : Hid (ZT = ⟨0, [], []⟩) := e2
    have R4 := pair_old hg4 B3.out
    obtain ⟨⟨f0, f1, f2⟩, g0, g1, g2⟩ := trip_room2 R4
    obtain ⟨⟨k0, k1, k2⟩, FR, FV, FG⟩ := res_set (st := 0) R4 (ownR_nil w.heap.size 0 w4) (ownV_nil w.heap.size 0 w4) (grown_trans hg03 hg4) wRB
    generalize txE t = z at *
    have h0' : (z != 0) = true := by simpa using h0
    have h0'' : (z == 0) = false := by simpa using h0
    clear e1 e2 R4 h0
    go_wp2
    refine bodyPost_ret (v := .tuple #[.agg #[.int .i64 0, .slice none 0 0, .slice none 0 0], .int .i64 z]) (by simp [results, Try.results15, go_sem, k0, k1, k2]) rfl ?_
    exact ⟨_, ret_txE HZ.out, tx_of HT.out FR FV, FG⟩
end Go.Proofs.Ytpmfbfflacbmjaa
