/-
  txn.Write, as it landed, keeps P8.4.
-/
import Derived.Test.YtpmfbfflacbmjacPart2
import Derived.Test.YtpmfbfflacbmjacTxCkP
import Derived.Test.YtpmfbfflacbmjacTxCl2
namespace Go.Proofs.Ytpmfbfflacbmjac
open Go.RowKit
set_option maxRecDepth 100000 in
set_option maxHeartbeats 4000000 in
theorem txwrite_ok : TxWriteOK := by
  intro w v u t r hv hf hu hr
  obtain ⟨ra, rc, wa, wc, rfl⟩ := hv.agg
  obtain ⟨na, nc, ka, kc, la, lc, rfl⟩ := hu.aggW
  obtain ⟨_, _, hrd⟩ := hv.parts
  obtain ⟨W1, HW1, hg1, B1⟩ := alloc_namedX w (.cells #[.int .i64 t.start, .slice ra t.reads.length rc, .slice wa t.writes.length wc] 28)
  obtain ⟨W2, HW2, hg2, B2⟩ := alloc_namedX W1 (.cells #[.slice na r.name.length nc, .slice ka r.key.length kc, .bool r.gone, .slice la r.value.length lc] 53)
  obtain ⟨W3, HW3, hg3, B3⟩ := alloc_namedX W2 (.cells #[.int .i64 0, .slice none 0 0, .slice none 0 0] 28)
  have s1 : W1.heap.size = w.heap.size + 1 := by rw [HW1.out]; simp
  have s2 : W2.heap.size = w.heap.size + 1 + 1 := by rw [HW2.out]; simp [s1]
  rw [s1] at B2
  rw [s2] at B3
  have hg23 := grown_trans hg2 hg3
  have hg03 := grown_trans hg1 hg23
  have I3 : Hid (W3.heap[w.heap.size]? = some (.cells #[.int .i64 t.start, .slice ra t.reads.length rc, .slice wa t.writes.length wc] 28)) := pair_old hg23 B1.out
  have Q3 : Hid (W3.heap[w.heap.size + 1]? = some (.cells #[.slice na r.name.length nc, .slice ka r.key.length kc, .bool r.gone, .slice la r.value.length lc] 53)) := pair_old hg3 B2.out
  have HX : Hid (W3 = ((w.alloc (.cells #[.int .i64 t.start, .slice ra t.reads.length rc, .slice wa t.writes.length wc] 28)).alloc (.cells #[.slice na r.name.length nc, .slice ka r.key.length kc, .bool r.gone, .slice la r.value.length lc] 53)).alloc (.cells #[.int .i64 0, .slice none 0 0, .slice none 0 0] 28)) := by show _ = _; rw [HW3.out, HW2.out, HW1.out]
  have HV : Hid (TxIs W3 (.agg #[.int .i64 t.start, .slice ra t.reads.length rc, .slice wa t.writes.length wc]) t) := hv.grown hg03
  have HU : Hid (WriteIs W3 (.agg #[.slice na r.name.length nc, .slice ka r.key.length kc, .bool r.gone, .slice la r.value.length lc]) r) := hu.grown hg03
  have HRD : Hid (WritesIs W3 (.slice wa t.writes.length wc) t.writes) := hrd.grown hg03
  have TF : Hid (Calls Try.prog 18 #[.agg #[.int .i64 t.start, .slice ra t.reads.length rc, .slice wa t.writes.length wc]] W3 fun e w' => e = .returned (.int .i64 (txE t)) ∧ W3.grownBy w' none) := txcheck_ok W3 _ t HV.out hf
  have RF : Hid (∀ w', W3.grownBy w' none → Calls Try.prog 48 #[.agg #[.slice na r.name.length nc, .slice ka r.key.length kc, .bool r.gone, .slice la r.value.length lc]] w' fun e w'' => e = .returned (.int .i64 (writeE r)) ∧ w'.grownBy w'' none) := fun w' h => checkWrite_any w' _ r (HU.out.grown h) hr
  have CP : Hid (∀ w', W3.grownBy w' none → Calls Try.prog 34 #[.agg #[.int .i64 t.start, .slice ra t.reads.length rc, .slice wa t.writes.length wc]] w' fun e w'' => ∃ r1 r2 r3 r4, e = .returned (.agg #[.int .i64 t.start, .slice r1 t.reads.length r2, .slice r3 t.writes.length r4]) ∧ OwnR w'.heap.size 0 w'' (.slice r1 t.reads.length r2) t.reads ∧ OwnV w'.heap.size 0 w'' (.slice r3 t.writes.length r4) t.writes ∧ w'.grownBy w'' none) := fun w' h => tcloned_any w' _ t (HV.out.grown h) hf
  have RC : Hid (∀ w', W3.grownBy w' none → Calls Try.prog 49 #[.agg #[.slice na r.name.length nc, .slice ka r.key.length kc, .bool r.gone, .slice la r.value.length lc]] w' fun e w'' => ∃ x1 x2 x3 x4 x5 x6, e = .returned (.agg #[.slice x1 r.name.length x2, .slice x3 r.key.length x4, .bool r.gone, .slice x5 r.value.length x6]) ∧ PartIs 0 w'' (.slice x1 r.name.length x2) r.name ∧ PartIs 0 w'' (.slice x3 r.key.length x4) r.key ∧ PartIs 0 w'' (.slice x5 r.value.length x6) r.value ∧ w'.grownBy w'' none) := fun w' h => clonedWrite_any w' _ r (HU.out.grown h) hr
  have hmany := hf.writes.many
  have FD : Hid (∀ w', W3.grownBy w' none → Calls Try.prog 43 #[.slice wa t.writes.length wc, .slice na r.name.length nc, .slice ka r.key.length kc] w' fun e w'' => e = .returned (.int .i64 (firstP (fun q => plSame q r) t.writes)) ∧ w'.grownBy w'' none) := fun w' h => by
    have hu' := HU.out.grown h
    obtain ⟨x1, x2, x3, ex, v1, v2, v3⟩ := hu'
    simp only [Value.agg.injEq, Array.mk.injEq, List.cons.injEq, and_true] at ex
    obtain ⟨rfl, rfl, _, rfl⟩ := ex
    exact findWrite_any w' _ _ _ _ _ _ (HRD.out.grown h) (by omega) v1 v2
  have HF1 : Hid (t.writes.any (fun q => plSame q r) = false → firstP (fun q => plSame q r) t.writes = -1) := firstP_none _ _
  have HF2 : Hid (t.writes.any (fun q => plSame q r) = true → ∃ m, m < t.writes.length ∧ (t.writes.take m).any (fun q => plSame q r) = false ∧ plSame (t.writes.getD m noPlc) r = true ∧ firstP (fun q => plSame q r) t.writes = (m : Int)) := firstP_some _ noPlc _
  generalize firstP (fun q => plSame q r) t.writes = FI at *
  obtain ⟨Z, hZ⟩ : ∃ Z, Z = twriteE t r := ⟨_, rfl⟩
  obtain ⟨ZT, hZT⟩ : ∃ ZT, ZT = twriteT t r := ⟨_, rfl⟩
  have HB1 : Hid (txE t ≠ 0 → Z = txE t ∧ ZT = ⟨0, [], []⟩) := fun h => by
    have e : twriteE t r = txE t := by rw [twriteE, if_neg h]
    exact ⟨by rw [hZ, e], by rw [hZT, twriteT, e, if_neg h]; rfl⟩
  have HB2 : Hid (txE t = 0 → writeE r ≠ 0 → Z = writeE r ∧ ZT = ⟨0, [], []⟩) := fun h0 h => by
    have e : twriteE t r = writeE r := by rw [twriteE, if_pos h0, if_neg h]
    exact ⟨by rw [hZ, e], by rw [hZT, twriteT, e, if_neg h]; rfl⟩
  have HB3 : Hid (txE t = 0 → writeE r = 0 → hasW t.writes r = true → Z = 0 ∧ ZT = ⟨t.start, t.reads, putW t.writes r⟩) := fun h0 h1 h => by
    have e : twriteE t r = 0 := by rw [twriteE, if_pos h0, if_pos h1, if_pos h]
    exact ⟨by rw [hZ, e], by rw [hZT, twriteT, if_pos e]⟩
  have HB4 : Hid (txE t = 0 → writeE r = 0 → hasW t.writes r = false → t.writes.length = 10 → Z = 11 ∧ ZT = ⟨0, [], []⟩) := fun h0 h1 h h2 => by
    have e : twriteE t r = 11 := by rw [twriteE, if_pos h0, if_pos h1, h, if_neg (by decide), if_pos h2]
    exact ⟨by rw [hZ, e], by rw [hZT, twriteT, e, if_neg (by decide)]; rfl⟩
  have HB5 : Hid (txE t = 0 → writeE r = 0 → hasW t.writes r = false → t.writes.length ≠ 10 → Z = 0 ∧ ZT = ⟨t.start, t.reads, putW t.writes r⟩) := fun h0 h1 h h2 => by
    have e : twriteE t r = 0 := by rw [twriteE, if_pos h0, if_pos h1, h, if_neg (by decide), if_neg h2]
    exact ⟨by rw [hZ, e], by rw [hZT, twriteT, if_pos e]⟩
  have HHR : Hid (hasW t.writes r = t.writes.any (fun q => plSame q r)) := rfl
  have HTX : Hid (txE t = 0 → t.writes.length ≤ 10) := fun h => ((tx_iff t).1 h).writes
  rw [← hZ, ← hZT]
  clear hZ hZT hv hu hrd hf hr s1 s2 B1 B2 HW1 HW2 HW3
  go_enter Try.func22, Try.ntmps22
  go_upto_region 1 with fail
  rw [← HX.out]
  obtain ⟨RB, hRB⟩ : ∃ RB, RB = w.heap.size + 1 + 1 := ⟨_, rfl⟩
  obtain ⟨QB, hQB⟩ : ∃ QB, QB = w.heap.size + 1 := ⟨_, rfl⟩
  obtain ⟨IB, hIB⟩ : ∃ IB, IB = w.heap.size := ⟨_, rfl⟩
  have wRB : w.heap.size ≤ RB := by omega
  rw [← hRB] at B3 ⊢
  rw [← hQB] at Q3 ⊢
  rw [← hIB] at I3 ⊢
  clear hRB hQB hIB HX
  obtain ⟨⟨c0, c1, c2⟩, _⟩ := trip_room2 I3.out
  go_wp2_with fail
  refine TF.out.mono ?_
  rintro e w4 ⟨rfl, hg4⟩
  clear c0 c1 c2
  by_cases h0 : txE t = 0
  · obtain ⟨⟨q0, q1, q2, q3⟩, _⟩ := quad_room hg4 Q3.out
    rw [h0]
    go_wp2_with fail
    refine (RF.out _ hg4).mono ?_
    rintro e w5 ⟨rfl, hg5⟩
    have hg35 := grown_trans hg4 hg5
    clear q0 q1 q2 q3
    by_cases h1 : writeE r = 0
    · rw [h1]
      obtain ⟨⟨c0, c1, c2⟩, _⟩ := trip_room2 (pair_old hg35 I3.out)
      go_wp2_with fail
      refine (CP.out _ hg35).mono ?_
      rintro e w6 ⟨va, vc, ua, uc, rfl, hoR, hoV, hg6⟩
      obtain ⟨W7, HW7, hg7, B7⟩ := alloc_namedX w6 (.cells #[.int .i64 t.start, .slice va t.reads.length vc, .slice ua t.writes.length uc] 28)
      have hg67 := grown_trans hg6 hg7
      have hg37 := grown_trans hg35 hg67
      have hg07 := grown_trans hg03 hg37
      have O7 : Hid (OwnR w5.heap.size 0 W7 (.slice va t.reads.length vc) t.reads) := hoR.grownNone hg7
      have V7 : Hid (OwnV w5.heap.size 0 W7 (.slice ua t.writes.length uc) t.writes) := hoV.grownNone hg7
      have wR5 : w.heap.size ≤ w5.heap.size := (grown_trans hg03 hg35).size
      have hr57 : w5.heap.size ≤ W7.heap.size := hg67.size
      have nRO : RB ≠ w6.heap.size := by
        have := (Array.getElem?_eq_some_iff.1 (pair_old (grown_trans hg35 hg6) B3.out)).1
        omega
      have wOB : w.heap.size ≤ w6.heap.size := (grown_trans (grown_trans hg03 hg35) hg6).size
      have HC3 : Hid (∀ m, m < t.writes.length → (t.writes.take m).any (fun q => plSame q r) = false → plSame (t.writes.getD m noPlc) r = true → Z = 0 ∧ ZT = ⟨t.start, t.reads, t.writes.set m r⟩) := fun m h2 h3 h4 => by
        have hh : hasW t.writes r = true := by
          have := any_takeT noPlc (fun q => plSame q r) t.writes m t.writes.length h2 (Nat.le_refl _) h4
          rw [List.take_length] at this; exact this
        have := HB3.out h0 h1 hh
        rw [putW_at _ _ m h2 h3 h4] at this; exact this
      have HC4 : Hid (t.writes.any (fun q => plSame q r) = false → t.writes.length = 10 → Z = 11 ∧ ZT = ⟨0, [], []⟩) := fun h => HB4.out h0 h1 (by rw [HHR.out]; exact h)
      have HC5 : Hid (t.writes.any (fun q => plSame q r) = false → t.writes.length ≠ 10 → Z = 0 ∧ ZT = ⟨t.start, t.reads, t.writes ++ [r]⟩) := fun h h2 => by
        have := HB5.out h0 h1 (by rw [HHR.out]; exact h) h2
        rw [putW_new _ _ h] at this; exact this
      have h20 := HTX.out h0
      go_upto_region 8 with fail
      rw [← HW7.out]
      clear HB1 HB2 HB3 HB4 HB5 HHR HTX h0 h1 c0 c1 c2 TF RF CP HV HW7 hoR hoV hg4 hg5 hg6 hg7 hg23 hg67
      obtain ⟨OB, hOB⟩ : ∃ OB, OB = w6.heap.size := ⟨_, rfl⟩
      obtain ⟨rb, hrb⟩ : ∃ rb, rb = w5.heap.size := ⟨_, rfl⟩
      have hrb7 : rb ≤ W7.heap.size := by rw [hrb]; exact hr57
      rw [← hOB] at B7 wOB nRO ⊢
      rw [← hrb] at O7 V7 wR5
      clear hOB hrb hr57
      generalize t.reads = R at *
      generalize t.writes = V at *
      generalize t.start = st at *
      obtain ⟨c0, c1, c2⟩ := trip_room hg37 I3.out
      obtain ⟨⟨t1, t2, t3, t4⟩, _⟩ := quad_room hg37 Q3.out
      go_wp2_with fail
      refine (FD.out _ hg37).mono ?_
      rintro e w8 ⟨rfl, hg8⟩
      clear c0 c1 c2 t1 t2 t3 t4 FD
      have hg38 := grown_trans hg37 hg8
      cases hAN : V.any (fun q => plSame q r) with
      | true =>
        obtain ⟨m, hlt, hm1, hm2, hFm⟩ := HF2.out hAN
        obtain ⟨e1, e2⟩ := HC3.out m hlt hm1 hm2
        have HZ : Hid (Z = 0) := e1
        have HT : Hid (ZT = ⟨st, R, V.set m r⟩) := e2
        rw [hFm]
        have hF : ((m : Int) != -1) = true := by simp
        have i1 : (m : Int) < (V.length : Int) := by omega
        have OV0 := V7.out.grownNone hg8
        obtain ⟨g, o2, hua, _⟩ := writes_cells OV0.list m hlt
        subst hua
        have hz0 := OV0.zero
        subst hz0
        have HO : Hid (OwnV rb 0 w8 (.slice (some ⟨g, 0, none⟩) V.length uc) V) := OV0
        have HOR : Hid (OwnR rb 0 w8 (.slice va R.length vc) R) := O7.out.grownNone hg8
        have HOB : Hid (w8.heap[OB]? = some (.cells #[.int .i64 st, .slice va R.length vc, .slice (some ⟨g, 0, none⟩) V.length uc] 28)) := pair_old hg8 B7.out
        have HRB : Hid (w8.heap[RB]? = some (.cells #[.int .i64 0, .slice none 0 0, .slice none 0 0] 28)) := pair_old hg38 B3.out
        have HG8 : Hid (w.grownBy w8 none) := grown_trans hg07 hg8
        have CL : Hid (∀ w', w8.grownBy w' none → Calls Try.prog 49 #[.agg #[.slice na r.name.length nc, .slice ka r.key.length kc, .bool r.gone, .slice la r.value.length lc]] w' fun e w'' => ∃ x1 x2 x3 x4 x5 x6, e = .returned (.agg #[.slice x1 r.name.length x2, .slice x3 r.key.length x4, .bool r.gone, .slice x5 r.value.length x6]) ∧ PartIs 0 w'' (.slice x1 r.name.length x2) r.name ∧ PartIs 0 w'' (.slice x3 r.key.length x4) r.key ∧ PartIs 0 w'' (.slice x5 r.value.length x6) r.value ∧ w'.grownBy w'' none) := fun w' h => RC.out w' (grown_trans hg38 h)
        have hgd : w8.grownBy w8.drew none := grown_drew (grown_refl _ _)
        obtain ⟨⟨y0, y1, y2, y3⟩, _⟩ := quad_room (grown_trans hg38 hgd) Q3.out
        obtain ⟨⟨t0, t1, t2⟩, _⟩ := trip_room2 (pair_old hgd HOB.out)
        have e3 := t2
        clear e1 e2 HC3 HC4 HC5 HF1 HF2 hAN t0 t1 t2 OV0 hm1 hm2 hFm
        go_upto_region 10 with fail
        refine wp_region_any (by kernel_rfl) ?_
        try (change wpAny _ _ _ _ _ _ _ (World.drew _))
        refine wpAny_take (i := 0) (v := ?_) rfl (by kernel_rfl) (by kernel_rfl) (by kernel_rfl) (fun _ _ _ h => h) (Or.inl ⟨by kernel_rfl, ?_⟩) ?_
        rotate_left 1
        · intro w; go_simp
          try with_reducible rfl
        refine wpAny_take (i := 2) (v := ?_) rfl (by kernel_rfl) (by kernel_rfl) (by kernel_rfl) (fun _ _ _ h => h) (Or.inl ⟨by kernel_rfl, ?_⟩) ?_
        rotate_left 1
        · intro w; go_simp
          try with_reducible rfl
        refine wpAny_ready (rs := [1, 3]) (by kernel_rfl) (by simp) ?_
        refine AllReady.cons rfl (fun KK hK => ?_) ?_
        · skip
          go_simp
          refine hK _ _ ?_
          clear hK KK
          refine wpAny_ready (rs := [3]) (by kernel_rfl) (by simp) ?_
          refine AllReady.cons rfl (fun KK hK => ?_) ?_
          · skip
            go_simp
            refine hK _ _ ?_
            clear hK KK
            refine wpAny_ready (rs := [4]) (by kernel_rfl) (by simp) ?_
            refine AllReady.cons rfl (fun KK hK => ?_) ?_
            · skip
              go_simp
              refine (CL.out _ hgd).mono ?_
              rintro e w5 ⟨x1, x2, x3, x4, x5, x6, rfl, p1, p2, p3, hg5⟩
              have f3 := hg5.cell e3 (by simp)
              have hg85 : w8.grownBy w5 none := grown_trans hgd hg5
              have OV := HO.out.grownNone hg85
              obtain ⟨g2, o2, e2, s1, s2, s3, s4, s5, s6, ⟨q1, q2, q3, q4⟩, _⟩ := writes_cells OV.list m hlt
              simp only [Option.some.injEq, Addr.mk.injEq] at e2
              obtain ⟨rfl, rfl, _⟩ := e2
              rw [Nat.zero_add] at q1 q2 q3 q4
              have fz0 := OV.frozenT (m * 4)
              have fz1 := OV.frozenT (m * 4 + 1)
              have fz2 := OV.frozenT (m * 4 + 2)
              have fz3 := OV.frozenT (m * 4 + 3)
              obtain ⟨W8, hW8⟩ : ∃ W8, W8 = ((((w5.setCell ⟨g, m * 4, none⟩ (.slice x1 r.name.length x2)).setCell ⟨g, m * 4 + 1, none⟩ (.slice x3 r.key.length x4)).setCell ⟨g, m * 4 + 2, none⟩ (.bool r.gone)).setCell ⟨g, m * 4 + 3, none⟩ (.slice x5 r.value.length x6)) := ⟨_, rfl⟩
              have HW8 : Hid (W8 = ((((w5.setCell ⟨g, m * 4, none⟩ (.slice x1 r.name.length x2)).setCell ⟨g, m * 4 + 1, none⟩ (.slice x3 r.key.length x4)).setCell ⟨g, m * 4 + 2, none⟩ (.bool r.gone)).setCell ⟨g, m * 4 + 3, none⟩ (.slice x5 r.value.length x6))) := hW8
              have hgr : w5.grownBy W8 (some g) := by rw [hW8]; exact grown_set (grown_set (grown_set (grown_set (grown_refl _ _) _ _) _ _) _ _) _ _
              have OX : Hid (OwnV rb 0 W8 (.slice (some ⟨g, 0, none⟩) V.length uc) (V.set m r)) := by show OwnV _ _ _ _ _; rw [hW8]; exact OV.setT m _ _ _ r p1 p2 p3
              have BX : Hid (W8.heap[OB]? = some (.cells #[.int .i64 st, .slice va R.length vc, .slice (some ⟨g, 0, none⟩) V.length uc] 28)) := OV.block hgr (pair_old hg85 HOB.out) txTW
              have RX : Hid (W8.heap[RB]? = some (.cells #[.int .i64 0, .slice none 0 0, .slice none 0 0] 28)) := OV.block hgr (pair_old hg85 HRB.out) txTW
              have QX : Hid (OwnR rb 0 W8 (.slice va R.length vc) R) := (HOR.out.grownNone hg85).keptV OV hgr
              have GX : Hid (w.grownBy W8 none) := grown_ownV (grown_trans HG8.out hg85) OV wR5 hgr
              clear OV hgr hW8 p1 p2 p3 hg5 hg85
              refine hK _ _ ?_
              clear hK KK
              refine wpAny_ready (rs := [5]) (by kernel_rfl) (by simp) ?_
              refine AllReady.cons rfl (fun KK hK => ?_) ?_
              · go_simp
                refine hK _ _ ?_
                clear hK KK
                refine wpAny_ready (rs := [6]) (by kernel_rfl) (by simp) ?_
                refine AllReady.cons rfl (fun KK hK => ?_) ?_
                · go_simp
                  rw [← HW8.out]
                  refine hK _ _ ?_
                  clear hK KK
                  refine wpAny_done (by kernel_rfl) ?_ _
                  clear q1 q2 q3 q4 fz0 fz1 fz2 fz3 f3 e3 y0 y1 y2 y3
                  obtain ⟨⟨p0, p1, p2⟩, _⟩ := trip_room2 BX.out
                  obtain ⟨⟨f0, f1, f2⟩, g0, g1, g2⟩ := trip_room2 RX.out
                  obtain ⟨⟨k0, k1, k2⟩, FR, FV, FG⟩ := res_set (st := st) RX.out QX.out OX.out GX.out wRB
                  go_wp2
                  refine bodyPost_ret (v := .tuple #[.agg #[.int .i64 st, .slice va R.length vc, .slice (some ⟨g, 0, none⟩) V.length uc], .int .i64 0]) (by simp [results, Try.results22, go_sem, k0, k1, k2]) rfl ?_
                  exact ⟨_, ret_txE HZ.out, tx_of HT.out FR FV, FG⟩
                exact AllReady.nil
              exact AllReady.nil
            exact AllReady.nil
          exact AllReady.nil
        refine AllReady.cons rfl (fun KK hK => ?_) ?_
        · skip
          go_simp
          refine hK _ _ ?_
          clear hK KK
          refine wpAny_ready (rs := [1, 4]) (by kernel_rfl) (by simp) ?_
          refine AllReady.cons rfl (fun KK hK => ?_) ?_
          · skip
            go_simp
            refine hK _ _ ?_
            clear hK KK
            refine wpAny_ready (rs := [4]) (by kernel_rfl) (by simp) ?_
            refine AllReady.cons rfl (fun KK hK => ?_) ?_
            · skip
              go_simp
              refine (CL.out _ hgd).mono ?_
              rintro e w5 ⟨x1, x2, x3, x4, x5, x6, rfl, p1, p2, p3, hg5⟩
              have f3 := hg5.cell e3 (by simp)
              have hg85 : w8.grownBy w5 none := grown_trans hgd hg5
              have OV := HO.out.grownNone hg85
              obtain ⟨g2, o2, e2, s1, s2, s3, s4, s5, s6, ⟨q1, q2, q3, q4⟩, _⟩ := writes_cells OV.list m hlt
              simp only [Option.some.injEq, Addr.mk.injEq] at e2
              obtain ⟨rfl, rfl, _⟩ := e2
              rw [Nat.zero_add] at q1 q2 q3 q4
              have fz0 := OV.frozenT (m * 4)
              have fz1 := OV.frozenT (m * 4 + 1)
              have fz2 := OV.frozenT (m * 4 + 2)
              have fz3 := OV.frozenT (m * 4 + 3)
              obtain ⟨W8, hW8⟩ : ∃ W8, W8 = ((((w5.setCell ⟨g, m * 4, none⟩ (.slice x1 r.name.length x2)).setCell ⟨g, m * 4 + 1, none⟩ (.slice x3 r.key.length x4)).setCell ⟨g, m * 4 + 2, none⟩ (.bool r.gone)).setCell ⟨g, m * 4 + 3, none⟩ (.slice x5 r.value.length x6)) := ⟨_, rfl⟩
              have HW8 : Hid (W8 = ((((w5.setCell ⟨g, m * 4, none⟩ (.slice x1 r.name.length x2)).setCell ⟨g, m * 4 + 1, none⟩ (.slice x3 r.key.length x4)).setCell ⟨g, m * 4 + 2, none⟩ (.bool r.gone)).setCell ⟨g, m * 4 + 3, none⟩ (.slice x5 r.value.length x6))) := hW8
              have hgr : w5.grownBy W8 (some g) := by rw [hW8]; exact grown_set (grown_set (grown_set (grown_set (grown_refl _ _) _ _) _ _) _ _) _ _
              have OX : Hid (OwnV rb 0 W8 (.slice (some ⟨g, 0, none⟩) V.length uc) (V.set m r)) := by show OwnV _ _ _ _ _; rw [hW8]; exact OV.setT m _ _ _ r p1 p2 p3
              have BX : Hid (W8.heap[OB]? = some (.cells #[.int .i64 st, .slice va R.length vc, .slice (some ⟨g, 0, none⟩) V.length uc] 28)) := OV.block hgr (pair_old hg85 HOB.out) txTW
              have RX : Hid (W8.heap[RB]? = some (.cells #[.int .i64 0, .slice none 0 0, .slice none 0 0] 28)) := OV.block hgr (pair_old hg85 HRB.out) txTW
              have QX : Hid (OwnR rb 0 W8 (.slice va R.length vc) R) := (HOR.out.grownNone hg85).keptV OV hgr
              have GX : Hid (w.grownBy W8 none) := grown_ownV (grown_trans HG8.out hg85) OV wR5 hgr
              clear OV hgr hW8 p1 p2 p3 hg5 hg85
              refine hK _ _ ?_
              clear hK KK
              refine wpAny_ready (rs := [5]) (by kernel_rfl) (by simp) ?_
              refine AllReady.cons rfl (fun KK hK => ?_) ?_
              · go_simp
                refine hK _ _ ?_
                clear hK KK
                refine wpAny_ready (rs := [6]) (by kernel_rfl) (by simp) ?_
                refine AllReady.cons rfl (fun KK hK => ?_) ?_
                · go_simp
                  rw [← HW8.out]
                  refine hK _ _ ?_
                  clear hK KK
                  refine wpAny_done (by kernel_rfl) ?_ _
                  clear q1 q2 q3 q4 fz0 fz1 fz2 fz3 f3 e3 y0 y1 y2 y3
                  obtain ⟨⟨p0, p1, p2⟩, _⟩ := trip_room2 BX.out
                  obtain ⟨⟨f0, f1, f2⟩, g0, g1, g2⟩ := trip_room2 RX.out
                  obtain ⟨⟨k0, k1, k2⟩, FR, FV, FG⟩ := res_set (st := st) RX.out QX.out OX.out GX.out wRB
                  go_wp2
                  refine bodyPost_ret (v := .tuple #[.agg #[.int .i64 st, .slice va R.length vc, .slice (some ⟨g, 0, none⟩) V.length uc], .int .i64 0]) (by simp [results, Try.results22, go_sem, k0, k1, k2]) rfl ?_
                  exact ⟨_, ret_txE HZ.out, tx_of HT.out FR FV, FG⟩
                exact AllReady.nil
              exact AllReady.nil
            exact AllReady.nil
          refine AllReady.cons rfl (fun KK hK => ?_) ?_
          · skip
            go_simp
            refine (CL.out _ hgd).mono ?_
            rintro e w5 ⟨x1, x2, x3, x4, x5, x6, rfl, p1, p2, p3, hg5⟩
            have f3 := hg5.cell e3 (by simp)
            have hg85 : w8.grownBy w5 none := grown_trans hgd hg5
            have OV := HO.out.grownNone hg85
            obtain ⟨g2, o2, e2, s1, s2, s3, s4, s5, s6, ⟨q1, q2, q3, q4⟩, _⟩ := writes_cells OV.list m hlt
            simp only [Option.some.injEq, Addr.mk.injEq] at e2
            obtain ⟨rfl, rfl, _⟩ := e2
            rw [Nat.zero_add] at q1 q2 q3 q4
            have fz0 := OV.frozenT (m * 4)
            have fz1 := OV.frozenT (m * 4 + 1)
            have fz2 := OV.frozenT (m * 4 + 2)
            have fz3 := OV.frozenT (m * 4 + 3)
            obtain ⟨W8, hW8⟩ : ∃ W8, W8 = ((((w5.setCell ⟨g, m * 4, none⟩ (.slice x1 r.name.length x2)).setCell ⟨g, m * 4 + 1, none⟩ (.slice x3 r.key.length x4)).setCell ⟨g, m * 4 + 2, none⟩ (.bool r.gone)).setCell ⟨g, m * 4 + 3, none⟩ (.slice x5 r.value.length x6)) := ⟨_, rfl⟩
            have HW8 : Hid (W8 = ((((w5.setCell ⟨g, m * 4, none⟩ (.slice x1 r.name.length x2)).setCell ⟨g, m * 4 + 1, none⟩ (.slice x3 r.key.length x4)).setCell ⟨g, m * 4 + 2, none⟩ (.bool r.gone)).setCell ⟨g, m * 4 + 3, none⟩ (.slice x5 r.value.length x6))) := hW8
            have hgr : w5.grownBy W8 (some g) := by rw [hW8]; exact grown_set (grown_set (grown_set (grown_set (grown_refl _ _) _ _) _ _) _ _) _ _
            have OX : Hid (OwnV rb 0 W8 (.slice (some ⟨g, 0, none⟩) V.length uc) (V.set m r)) := by show OwnV _ _ _ _ _; rw [hW8]; exact OV.setT m _ _ _ r p1 p2 p3
            have BX : Hid (W8.heap[OB]? = some (.cells #[.int .i64 st, .slice va R.length vc, .slice (some ⟨g, 0, none⟩) V.length uc] 28)) := OV.block hgr (pair_old hg85 HOB.out) txTW
            have RX : Hid (W8.heap[RB]? = some (.cells #[.int .i64 0, .slice none 0 0, .slice none 0 0] 28)) := OV.block hgr (pair_old hg85 HRB.out) txTW
            have QX : Hid (OwnR rb 0 W8 (.slice va R.length vc) R) := (HOR.out.grownNone hg85).keptV OV hgr
            have GX : Hid (w.grownBy W8 none) := grown_ownV (grown_trans HG8.out hg85) OV wR5 hgr
            clear OV hgr hW8 p1 p2 p3 hg5 hg85
            refine hK _ _ ?_
            clear hK KK
            refine wpAny_ready (rs := [1]) (by kernel_rfl) (by simp) ?_
            refine AllReady.cons rfl (fun KK hK => ?_) ?_
            · skip
              go_simp
              refine hK _ _ ?_
              clear hK KK
              refine wpAny_ready (rs := [5]) (by kernel_rfl) (by simp) ?_
              refine AllReady.cons rfl (fun KK hK => ?_) ?_
              · go_simp
                refine hK _ _ ?_
                clear hK KK
                refine wpAny_ready (rs := [6]) (by kernel_rfl) (by simp) ?_
                refine AllReady.cons rfl (fun KK hK => ?_) ?_
                · go_simp
                  rw [← HW8.out]
                  refine hK _ _ ?_
                  clear hK KK
                  refine wpAny_done (by kernel_rfl) ?_ _
                  clear q1 q2 q3 q4 fz0 fz1 fz2 fz3 f3 e3 y0 y1 y2 y3
                  obtain ⟨⟨p0, p1, p2⟩, _⟩ := trip_room2 BX.out
                  obtain ⟨⟨f0, f1, f2⟩, g0, g1, g2⟩ := trip_room2 RX.out
                  obtain ⟨⟨k0, k1, k2⟩, FR, FV, FG⟩ := res_set (st := st) RX.out QX.out OX.out GX.out wRB
                  go_wp2
                  refine bodyPost_ret (v := .tuple #[.agg #[.int .i64 st, .slice va R.length vc, .slice (some ⟨g, 0, none⟩) V.length uc], .int .i64 0]) (by simp [results, Try.results22, go_sem, k0, k1, k2]) rfl ?_
                  exact ⟨_, ret_txE HZ.out, tx_of HT.out FR FV, FG⟩
                exact AllReady.nil
              exact AllReady.nil
            exact AllReady.nil
          exact AllReady.nil
        exact AllReady.nil
      | false =>
        have hFm := HF1.out hAN
        rw [hFm]
        obtain ⟨c0, c1, c2⟩ := trip_room hg38 I3.out
        by_cases hl : V.length = 10
        · obtain ⟨e1, e2⟩ := HC4.out hAN hl
          have HZ : Hid (Z = 11) := e1
          have HT : Hid (ZT = ⟨0, [], []⟩) := e2
          have i2 : ((V.length : Int) == 10) = true := by simp; omega
          have R8 := pair_old hg38 B3.out
          obtain ⟨⟨f0, f1, f2⟩, g0, g1, g2⟩ := trip_room2 R8
          obtain ⟨⟨k0, k1, k2⟩, FR, FV, FG⟩ := res_set (st := 0) R8 (ownR_nil w.heap.size 0 w8) (ownV_nil w.heap.size 0 w8) (grown_trans hg07 hg8) wRB
          clear e1 e2 R8 HC3 HC4 HC5 HF1 HF2 hAN hl hFm
          go_wp2
          refine bodyPost_ret (v := .tuple #[.agg #[.int .i64 0, .slice none 0 0, .slice none 0 0], .int .i64 11]) (by simp [results, Try.results22, go_sem, k0, k1, k2]) rfl ?_
          exact ⟨_, ret_txE HZ.out, tx_of HT.out FR FV, FG⟩
        · obtain ⟨e1, e2⟩ := HC5.out hAN hl
          have HZ : Hid (Z = 0) := e1
          have HT : Hid (ZT = ⟨st, R, V ++ [r]⟩) := e2
          have i2 : ((V.length : Int) == 10) = false := by simp; omega
          have HO : Hid (OwnV rb 0 w8 (.slice ua V.length uc) V) := V7.out.grownNone hg8
          have HOR : Hid (OwnR rb 0 w8 (.slice va R.length vc) R) := O7.out.grownNone hg8
          have HOB : Hid (w8.heap[OB]? = some (.cells #[.int .i64 st, .slice va R.length vc, .slice ua V.length uc] 28)) := pair_old hg8 B7.out
          have HRB : Hid (w8.heap[RB]? = some (.cells #[.int .i64 0, .slice none 0 0, .slice none 0 0] 28)) := pair_old hg38 B3.out
          have HG8 : Hid (w.grownBy w8 none) := grown_trans hg07 hg8
          have CL : Hid (∀ w', w8.grownBy w' none → Calls Try.prog 49 #[.agg #[.slice na r.name.length nc, .slice ka r.key.length kc, .bool r.gone, .slice la r.value.length lc]] w' fun e w'' => ∃ x1 x2 x3 x4 x5 x6, e = .returned (.agg #[.slice x1 r.name.length x2, .slice x3 r.key.length x4, .bool r.gone, .slice x5 r.value.length x6]) ∧ PartIs 0 w'' (.slice x1 r.name.length x2) r.name ∧ PartIs 0 w'' (.slice x3 r.key.length x4) r.key ∧ PartIs 0 w'' (.slice x5 r.value.length x6) r.value ∧ w'.grownBy w'' none) := fun w' h => RC.out w' (grown_trans hg38 h)
          have HLN : Hid ((V ++ [r]).length = V.length + 1) := by show _ = _; rw [List.length_append]; rfl
          have hl80 : (V.length + 1) * 80 ≤ 140737488355328 := by omega
          have hgd : w8.grownBy w8.drew none := grown_drew (grown_refl _ _)
          obtain ⟨⟨y0, y1, y2, y3⟩, _⟩ := quad_room (grown_trans hg38 hgd) Q3.out
          obtain ⟨⟨t0, t1, t2⟩, _⟩ := trip_room2 (pair_old hgd HOB.out)
          have hrb8 : rb ≤ w8.heap.size := Nat.le_trans hrb7 hg8.size
          clear e1 e2 HC3 HC4 HC5 HF1 HF2 hAN t0 t1 hFm
          have e1 := t2
          clear t2
          go_upto_region 14 with fail
          clear c0 c1 c2
          refine wp_region_any (by kernel_rfl) ?_
          try (change wpAny _ _ _ _ _ _ _ (World.drew _))
          refine wpAny_take (i := 0) (v := ?_) rfl (by kernel_rfl) (by kernel_rfl) (by kernel_rfl) (fun _ _ _ h => h) (Or.inl ⟨by kernel_rfl, ?_⟩) ?_
          rotate_left 1
          · intro w; go_simp
            try with_reducible rfl
          refine wpAny_ready (rs := [1, 2]) (by kernel_rfl) (by simp) ?_
          refine AllReady.cons rfl (fun KK hK => ?_) ?_
          · skip
            go_simp
            refine hK _ _ ?_
            clear hK KK
            refine wpAny_ready (rs := [2]) (by kernel_rfl) (by simp) ?_
            refine AllReady.cons rfl (fun KK hK => ?_) ?_
            · skip
              go_simp
              refine hK _ _ ?_
              clear hK KK
              refine wpAny_ready (rs := [3]) (by kernel_rfl) (by simp) ?_
              refine AllReady.cons rfl (fun KK hK => ?_) ?_
              · skip
                go_simp
                refine (CL.out _ hgd).mono ?_
                rintro e w5 ⟨x1, x2, x3, x4, x5, x6, rfl, p1, p2, p3, hg5⟩
                have f1 := hg5.cell e1 (by simp)
                obtain ⟨W5, HW5, hgA5, B5⟩ := alloc_namedX w5 (.cells #[.slice x1 r.name.length x2, .slice x3 r.key.length x4, .bool r.gone, .slice x5 r.value.length x6] 53)
                have f2 := hgA5.cell f1 (by simp)
                have hg35 : w8.grownBy W5 none := grown_trans hgd (grown_trans hg5 hgA5)
                have A1 : Hid (OwnV rb 0 W5 (.slice ua V.length uc) V) := HO.out.grownNone hg35
                have A2 : Hid (PartIs 0 W5 (.slice x1 r.name.length x2) r.name) := p1.keptT hgA5 (.inl rfl)
                have A3 : Hid (PartIs 0 W5 (.slice x3 r.key.length x4) r.key) := p2.keptT hgA5 (.inl rfl)
                have A4 : Hid (PartIs 0 W5 (.slice x5 r.value.length x6) r.value) := p3.keptT hgA5 (.inl rfl)
                have A5 : rb ≤ W5.heap.size := Nat.le_trans hrb8 hg35.size
                have O5 : Hid (W5.heap[OB]? = some (.cells #[.int .i64 st, .slice va R.length vc, .slice ua V.length uc] 28)) := pair_old hg35 HOB.out
                have R5 : Hid (W5.heap[RB]? = some (.cells #[.int .i64 0, .slice none 0 0, .slice none 0 0] 28)) := pair_old hg35 HRB.out
                have HG5 : Hid (w.grownBy W5 none) := grown_trans HG8.out hg35
                have OR5 : Hid (OwnR rb 0 W5 (.slice va R.length vc) R) := HOR.out.grownNone hg35
                clear p1 p2 p3 hg5 hgA5
                refine hK _ _ ?_
                clear hK KK
                refine wpAny_ready (rs := [4]) (by kernel_rfl) (by simp) ?_
                refine AllReady.cons rfl (fun KK hK => ?_) ?_
                · skip
                  go_simp
                  rw [← HW5.out]
                  refine hK _ _ ?_
                  clear hK KK
                  refine wpAny_ready (rs := [5]) (by kernel_rfl) (by simp) ?_
                  refine AllReady.cons rfl (fun KK hK => ?_) ?_
                  · refine step_append_wrX (by rfl) _ _ (by rfl) rb (.slice ua V.length uc) V (by rfl) A1.out (.slice x1 r.name.length x2) (.slice x3 r.key.length x4) (.slice x5 r.value.length x6) r A2.out A3.out A4.out w5.heap.size B5.out (by rfl) hl80 A5 ?_
                    intro v7 w7 ho7 hg7
                    obtain ⟨a7, c7, e7⟩ := ho7.shape
                    rw [HLN.out] at e7
                    subst e7
                    have O7 := A1.out.block hg7 O5.out txTW
                    obtain ⟨⟨r0, r1, r2⟩, g0, g1, g2⟩ := trip_room2 O7
                    obtain ⟨W8, HW8, hgs8⟩ := set_namedX w7 OB 2 (.slice a7 (V.length + 1) c7)
                    have NO : Hid (W8.heap[OB]? = some (.cells #[.int .i64 st, .slice va R.length vc, .slice a7 (V.length + 1) c7] 28)) := by rw [HW8.out]; exact set_self O7
                    have NV : Hid (OwnV rb 0 W8 (.slice a7 (V.length + 1) c7) (V ++ [r])) := by show OwnV _ _ _ _ _; rw [HW8.out]; exact ho7.setOther O7 txT5 txTW (Nat.zero_le _) _
                    have NR : Hid (OwnR rb 0 W8 (.slice va R.length vc) R) := by show OwnR _ _ _ _ _; rw [HW8.out]; exact (OR5.out.keptV A1.out hg7).setOther O7 txT5 txTR (Nat.zero_le _) _
                    have NB : Hid (W8.heap[RB]? = some (.cells #[.int .i64 0, .slice none 0 0, .slice none 0 0] 28)) := by show _ = _; rw [HW8.out]; exact set_apart (A1.out.block hg7 R5.out txTW) nRO
                    have NG : Hid (w.grownBy W8 none) := by show World.grownBy _ _ _; rw [HW8.out]; exact grown_setNew (grown_ownV HG5.out A1.out wR5 hg7) _ wOB _ _
                    clear ho7 hg7 O7 hgs8 hg35
                    refine hK _ _ ?_
                    clear hK KK
                    refine wpAny_take (i := 6) (v := ?_) rfl (by kernel_rfl) (by kernel_rfl) (by kernel_rfl) (fun _ _ _ h => h) (Or.inl ⟨by kernel_rfl, ?_⟩) ?_
                    rotate_left 1
                    · intro w; go_simp
                      try with_reducible rfl
                    refine wpAny_ready (rs := [7]) (by kernel_rfl) (by simp) ?_
                    refine AllReady.cons rfl (fun KK hK => ?_) ?_
                    · go_simp
                      rw [← HW8.out]
                      refine hK _ _ ?_
                      clear hK KK
                      refine wpAny_done (by kernel_rfl) ?_ _
                      clear g0 g1 g2 f1 f2 r0 r1 r2 e1 y0 y1 y2 y3
                      obtain ⟨⟨n0, n1, n2⟩, _⟩ := trip_room2 NO.out
                      obtain ⟨⟨f0, f1, f2⟩, g0, g1, g2⟩ := trip_room2 NB.out
                      obtain ⟨⟨k0, k1, k2⟩, FR, FV, FG⟩ := res_set (st := st) NB.out NR.out NV.out NG.out wRB
                      go_wp2
                      refine bodyPost_ret (v := .tuple #[.agg #[.int .i64 st, .slice va R.length vc, .slice a7 (V.length + 1) c7], .int .i64 0]) (by simp [results, Try.results22, go_sem, k0, k1, k2]) rfl ?_
                      exact ⟨_, ret_txE HZ.out, tx_of HT.out FR FV, FG⟩
                    exact AllReady.nil
                  exact AllReady.nil
                exact AllReady.nil
              exact AllReady.nil
            exact AllReady.nil
          refine AllReady.cons rfl (fun KK hK => ?_) ?_
          · skip
            go_simp
            refine hK _ _ ?_
            clear hK KK
            refine wpAny_ready (rs := [1, 3]) (by kernel_rfl) (by simp) ?_
            refine AllReady.cons rfl (fun KK hK => ?_) ?_
            · skip
              go_simp
              refine hK _ _ ?_
              clear hK KK
              refine wpAny_ready (rs := [3]) (by kernel_rfl) (by simp) ?_
              refine AllReady.cons rfl (fun KK hK => ?_) ?_
              · skip
                go_simp
                refine (CL.out _ hgd).mono ?_
                rintro e w5 ⟨x1, x2, x3, x4, x5, x6, rfl, p1, p2, p3, hg5⟩
                have f1 := hg5.cell e1 (by simp)
                obtain ⟨W5, HW5, hgA5, B5⟩ := alloc_namedX w5 (.cells #[.slice x1 r.name.length x2, .slice x3 r.key.length x4, .bool r.gone, .slice x5 r.value.length x6] 53)
                have f2 := hgA5.cell f1 (by simp)
                have hg35 : w8.grownBy W5 none := grown_trans hgd (grown_trans hg5 hgA5)
                have A1 : Hid (OwnV rb 0 W5 (.slice ua V.length uc) V) := HO.out.grownNone hg35
                have A2 : Hid (PartIs 0 W5 (.slice x1 r.name.length x2) r.name) := p1.keptT hgA5 (.inl rfl)
                have A3 : Hid (PartIs 0 W5 (.slice x3 r.key.length x4) r.key) := p2.keptT hgA5 (.inl rfl)
                have A4 : Hid (PartIs 0 W5 (.slice x5 r.value.length x6) r.value) := p3.keptT hgA5 (.inl rfl)
                have A5 : rb ≤ W5.heap.size := Nat.le_trans hrb8 hg35.size
                have O5 : Hid (W5.heap[OB]? = some (.cells #[.int .i64 st, .slice va R.length vc, .slice ua V.length uc] 28)) := pair_old hg35 HOB.out
                have R5 : Hid (W5.heap[RB]? = some (.cells #[.int .i64 0, .slice none 0 0, .slice none 0 0] 28)) := pair_old hg35 HRB.out
                have HG5 : Hid (w.grownBy W5 none) := grown_trans HG8.out hg35
                have OR5 : Hid (OwnR rb 0 W5 (.slice va R.length vc) R) := HOR.out.grownNone hg35
                clear p1 p2 p3 hg5 hgA5
                refine hK _ _ ?_
                clear hK KK
                refine wpAny_ready (rs := [4]) (by kernel_rfl) (by simp) ?_
                refine AllReady.cons rfl (fun KK hK => ?_) ?_
                · skip
                  go_simp
                  rw [← HW5.out]
                  refine hK _ _ ?_
                  clear hK KK
                  refine wpAny_ready (rs := [5]) (by kernel_rfl) (by simp) ?_
                  refine AllReady.cons rfl (fun KK hK => ?_) ?_
                  · refine step_append_wrX (by rfl) _ _ (by rfl) rb (.slice ua V.length uc) V (by rfl) A1.out (.slice x1 r.name.length x2) (.slice x3 r.key.length x4) (.slice x5 r.value.length x6) r A2.out A3.out A4.out w5.heap.size B5.out (by rfl) hl80 A5 ?_
                    intro v7 w7 ho7 hg7
                    obtain ⟨a7, c7, e7⟩ := ho7.shape
                    rw [HLN.out] at e7
                    subst e7
                    have O7 := A1.out.block hg7 O5.out txTW
                    obtain ⟨⟨r0, r1, r2⟩, g0, g1, g2⟩ := trip_room2 O7
                    obtain ⟨W8, HW8, hgs8⟩ := set_namedX w7 OB 2 (.slice a7 (V.length + 1) c7)
                    have NO : Hid (W8.heap[OB]? = some (.cells #[.int .i64 st, .slice va R.length vc, .slice a7 (V.length + 1) c7] 28)) := by rw [HW8.out]; exact set_self O7
                    have NV : Hid (OwnV rb 0 W8 (.slice a7 (V.length + 1) c7) (V ++ [r])) := by show OwnV _ _ _ _ _; rw [HW8.out]; exact ho7.setOther O7 txT5 txTW (Nat.zero_le _) _
                    have NR : Hid (OwnR rb 0 W8 (.slice va R.length vc) R) := by show OwnR _ _ _ _ _; rw [HW8.out]; exact (OR5.out.keptV A1.out hg7).setOther O7 txT5 txTR (Nat.zero_le _) _
                    have NB : Hid (W8.heap[RB]? = some (.cells #[.int .i64 0, .slice none 0 0, .slice none 0 0] 28)) := by show _ = _; rw [HW8.out]; exact set_apart (A1.out.block hg7 R5.out txTW) nRO
                    have NG : Hid (w.grownBy W8 none) := by show World.grownBy _ _ _; rw [HW8.out]; exact grown_setNew (grown_ownV HG5.out A1.out wR5 hg7) _ wOB _ _
                    clear ho7 hg7 O7 hgs8 hg35
                    refine hK _ _ ?_
                    clear hK KK
                    refine wpAny_take (i := 6) (v := ?_) rfl (by kernel_rfl) (by kernel_rfl) (by kernel_rfl) (fun _ _ _ h => h) (Or.inl ⟨by kernel_rfl, ?_⟩) ?_
                    rotate_left 1
                    · intro w; go_simp
                      try with_reducible rfl
                    refine wpAny_ready (rs := [7]) (by kernel_rfl) (by simp) ?_
                    refine AllReady.cons rfl (fun KK hK => ?_) ?_
                    · go_simp
                      rw [← HW8.out]
                      refine hK _ _ ?_
                      clear hK KK
                      refine wpAny_done (by kernel_rfl) ?_ _
                      clear g0 g1 g2 f1 f2 r0 r1 r2 e1 y0 y1 y2 y3
                      obtain ⟨⟨n0, n1, n2⟩, _⟩ := trip_room2 NO.out
                      obtain ⟨⟨f0, f1, f2⟩, g0, g1, g2⟩ := trip_room2 NB.out
                      obtain ⟨⟨k0, k1, k2⟩, FR, FV, FG⟩ := res_set (st := st) NB.out NR.out NV.out NG.out wRB
                      go_wp2
                      refine bodyPost_ret (v := .tuple #[.agg #[.int .i64 st, .slice va R.length vc, .slice a7 (V.length + 1) c7], .int .i64 0]) (by simp [results, Try.results22, go_sem, k0, k1, k2]) rfl ?_
                      exact ⟨_, ret_txE HZ.out, tx_of HT.out FR FV, FG⟩
                    exact AllReady.nil
                  exact AllReady.nil
                exact AllReady.nil
              exact AllReady.nil
            refine AllReady.cons rfl (fun KK hK => ?_) ?_
            · skip
              go_simp
              refine (CL.out _ hgd).mono ?_
              rintro e w5 ⟨x1, x2, x3, x4, x5, x6, rfl, p1, p2, p3, hg5⟩
              have f1 := hg5.cell e1 (by simp)
              obtain ⟨W5, HW5, hgA5, B5⟩ := alloc_namedX w5 (.cells #[.slice x1 r.name.length x2, .slice x3 r.key.length x4, .bool r.gone, .slice x5 r.value.length x6] 53)
              have f2 := hgA5.cell f1 (by simp)
              have hg35 : w8.grownBy W5 none := grown_trans hgd (grown_trans hg5 hgA5)
              have A1 : Hid (OwnV rb 0 W5 (.slice ua V.length uc) V) := HO.out.grownNone hg35
              have A2 : Hid (PartIs 0 W5 (.slice x1 r.name.length x2) r.name) := p1.keptT hgA5 (.inl rfl)
              have A3 : Hid (PartIs 0 W5 (.slice x3 r.key.length x4) r.key) := p2.keptT hgA5 (.inl rfl)
              have A4 : Hid (PartIs 0 W5 (.slice x5 r.value.length x6) r.value) := p3.keptT hgA5 (.inl rfl)
              have A5 : rb ≤ W5.heap.size := Nat.le_trans hrb8 hg35.size
              have O5 : Hid (W5.heap[OB]? = some (.cells #[.int .i64 st, .slice va R.length vc, .slice ua V.length uc] 28)) := pair_old hg35 HOB.out
              have R5 : Hid (W5.heap[RB]? = some (.cells #[.int .i64 0, .slice none 0 0, .slice none 0 0] 28)) := pair_old hg35 HRB.out
              have HG5 : Hid (w.grownBy W5 none) := grown_trans HG8.out hg35
              have OR5 : Hid (OwnR rb 0 W5 (.slice va R.length vc) R) := HOR.out.grownNone hg35
              clear p1 p2 p3 hg5 hgA5
              refine hK _ _ ?_
              clear hK KK
              refine wpAny_ready (rs := [1, 4]) (by kernel_rfl) (by simp) ?_
              refine AllReady.cons rfl (fun KK hK => ?_) ?_
              · skip
                go_simp
                refine hK _ _ ?_
                clear hK KK
                refine wpAny_ready (rs := [4]) (by kernel_rfl) (by simp) ?_
                refine AllReady.cons rfl (fun KK hK => ?_) ?_
                · skip
                  go_simp
                  rw [← HW5.out]
                  refine hK _ _ ?_
                  clear hK KK
                  refine wpAny_ready (rs := [5]) (by kernel_rfl) (by simp) ?_
                  refine AllReady.cons rfl (fun KK hK => ?_) ?_
                  · refine step_append_wrX (by rfl) _ _ (by rfl) rb (.slice ua V.length uc) V (by rfl) A1.out (.slice x1 r.name.length x2) (.slice x3 r.key.length x4) (.slice x5 r.value.length x6) r A2.out A3.out A4.out w5.heap.size B5.out (by rfl) hl80 A5 ?_
                    intro v7 w7 ho7 hg7
                    obtain ⟨a7, c7, e7⟩ := ho7.shape
                    rw [HLN.out] at e7
                    subst e7
                    have O7 := A1.out.block hg7 O5.out txTW
                    obtain ⟨⟨r0, r1, r2⟩, g0, g1, g2⟩ := trip_room2 O7
                    obtain ⟨W8, HW8, hgs8⟩ := set_namedX w7 OB 2 (.slice a7 (V.length + 1) c7)
                    have NO : Hid (W8.heap[OB]? = some (.cells #[.int .i64 st, .slice va R.length vc, .slice a7 (V.length + 1) c7] 28)) := by rw [HW8.out]; exact set_self O7
                    have NV : Hid (OwnV rb 0 W8 (.slice a7 (V.length + 1) c7) (V ++ [r])) := by show OwnV _ _ _ _ _; rw [HW8.out]; exact ho7.setOther O7 txT5 txTW (Nat.zero_le _) _
                    have NR : Hid (OwnR rb 0 W8 (.slice va R.length vc) R) := by show OwnR _ _ _ _ _; rw [HW8.out]; exact (OR5.out.keptV A1.out hg7).setOther O7 txT5 txTR (Nat.zero_le _) _
                    have NB : Hid (W8.heap[RB]? = some (.cells #[.int .i64 0, .slice none 0 0, .slice none 0 0] 28)) := by show _ = _; rw [HW8.out]; exact set_apart (A1.out.block hg7 R5.out txTW) nRO
                    have NG : Hid (w.grownBy W8 none) := by show World.grownBy _ _ _; rw [HW8.out]; exact grown_setNew (grown_ownV HG5.out A1.out wR5 hg7) _ wOB _ _
                    clear ho7 hg7 O7 hgs8 hg35
                    refine hK _ _ ?_
                    clear hK KK
                    refine wpAny_take (i := 6) (v := ?_) rfl (by kernel_rfl) (by kernel_rfl) (by kernel_rfl) (fun _ _ _ h => h) (Or.inl ⟨by kernel_rfl, ?_⟩) ?_
                    rotate_left 1
                    · intro w; go_simp
                      try with_reducible rfl
                    refine wpAny_ready (rs := [7]) (by kernel_rfl) (by simp) ?_
                    refine AllReady.cons rfl (fun KK hK => ?_) ?_
                    · go_simp
                      rw [← HW8.out]
                      refine hK _ _ ?_
                      clear hK KK
                      refine wpAny_done (by kernel_rfl) ?_ _
                      clear g0 g1 g2 f1 f2 r0 r1 r2 e1 y0 y1 y2 y3
                      obtain ⟨⟨n0, n1, n2⟩, _⟩ := trip_room2 NO.out
                      obtain ⟨⟨f0, f1, f2⟩, g0, g1, g2⟩ := trip_room2 NB.out
                      obtain ⟨⟨k0, k1, k2⟩, FR, FV, FG⟩ := res_set (st := st) NB.out NR.out NV.out NG.out wRB
                      go_wp2
                      refine bodyPost_ret (v := .tuple #[.agg #[.int .i64 st, .slice va R.length vc, .slice a7 (V.length + 1) c7], .int .i64 0]) (by simp [results, Try.results22, go_sem, k0, k1, k2]) rfl ?_
                      exact ⟨_, ret_txE HZ.out, tx_of HT.out FR FV, FG⟩
                    exact AllReady.nil
                  exact AllReady.nil
                exact AllReady.nil
              refine AllReady.cons rfl (fun KK hK => ?_) ?_
              · skip
                go_simp
                rw [← HW5.out]
                refine hK _ _ ?_
                clear hK KK
                refine wpAny_ready (rs := [1]) (by kernel_rfl) (by simp) ?_
                refine AllReady.cons rfl (fun KK hK => ?_) ?_
                · skip
                  go_simp
                  refine hK _ _ ?_
                  clear hK KK
                  refine wpAny_ready (rs := [5]) (by kernel_rfl) (by simp) ?_
                  refine AllReady.cons rfl (fun KK hK => ?_) ?_
                  · refine step_append_wrX (by rfl) _ _ (by rfl) rb (.slice ua V.length uc) V (by rfl) A1.out (.slice x1 r.name.length x2) (.slice x3 r.key.length x4) (.slice x5 r.value.length x6) r A2.out A3.out A4.out w5.heap.size B5.out (by rfl) hl80 A5 ?_
                    intro v7 w7 ho7 hg7
                    obtain ⟨a7, c7, e7⟩ := ho7.shape
                    rw [HLN.out] at e7
                    subst e7
                    have O7 := A1.out.block hg7 O5.out txTW
                    obtain ⟨⟨r0, r1, r2⟩, g0, g1, g2⟩ := trip_room2 O7
                    obtain ⟨W8, HW8, hgs8⟩ := set_namedX w7 OB 2 (.slice a7 (V.length + 1) c7)
                    have NO : Hid (W8.heap[OB]? = some (.cells #[.int .i64 st, .slice va R.length vc, .slice a7 (V.length + 1) c7] 28)) := by rw [HW8.out]; exact set_self O7
                    have NV : Hid (OwnV rb 0 W8 (.slice a7 (V.length + 1) c7) (V ++ [r])) := by show OwnV _ _ _ _ _; rw [HW8.out]; exact ho7.setOther O7 txT5 txTW (Nat.zero_le _) _
                    have NR : Hid (OwnR rb 0 W8 (.slice va R.length vc) R) := by show OwnR _ _ _ _ _; rw [HW8.out]; exact (OR5.out.keptV A1.out hg7).setOther O7 txT5 txTR (Nat.zero_le _) _
                    have NB : Hid (W8.heap[RB]? = some (.cells #[.int .i64 0, .slice none 0 0, .slice none 0 0] 28)) := by show _ = _; rw [HW8.out]; exact set_apart (A1.out.block hg7 R5.out txTW) nRO
                    have NG : Hid (w.grownBy W8 none) := by show World.grownBy _ _ _; rw [HW8.out]; exact grown_setNew (grown_ownV HG5.out A1.out wR5 hg7) _ wOB _ _
                    clear ho7 hg7 O7 hgs8 hg35
                    refine hK _ _ ?_
                    clear hK KK
                    refine wpAny_take (i := 6) (v := ?_) rfl (by kernel_rfl) (by kernel_rfl) (by kernel_rfl) (fun _ _ _ h => h) (Or.inl ⟨by kernel_rfl, ?_⟩) ?_
                    rotate_left 1
                    · intro w; go_simp
                      try with_reducible rfl
                    refine wpAny_ready (rs := [7]) (by kernel_rfl) (by simp) ?_
                    refine AllReady.cons rfl (fun KK hK => ?_) ?_
                    · go_simp
                      rw [← HW8.out]
                      refine hK _ _ ?_
                      clear hK KK
                      refine wpAny_done (by kernel_rfl) ?_ _
                      clear g0 g1 g2 f1 f2 r0 r1 r2 e1 y0 y1 y2 y3
                      obtain ⟨⟨n0, n1, n2⟩, _⟩ := trip_room2 NO.out
                      obtain ⟨⟨f0, f1, f2⟩, g0, g1, g2⟩ := trip_room2 NB.out
                      obtain ⟨⟨k0, k1, k2⟩, FR, FV, FG⟩ := res_set (st := st) NB.out NR.out NV.out NG.out wRB
                      go_wp2
                      refine bodyPost_ret (v := .tuple #[.agg #[.int .i64 st, .slice va R.length vc, .slice a7 (V.length + 1) c7], .int .i64 0]) (by simp [results, Try.results22, go_sem, k0, k1, k2]) rfl ?_
                      exact ⟨_, ret_txE HZ.out, tx_of HT.out FR FV, FG⟩
                    exact AllReady.nil
                  exact AllReady.nil
                exact AllReady.nil
              exact AllReady.nil
            exact AllReady.nil
          exact AllReady.nil
    · obtain ⟨e1, e2⟩ := HB2.out h0 h1
      have HZ : Hid (Z = writeE r) := e1
      have HT : Hid (ZT = ⟨0, [], []⟩) := e2
      have R5 := pair_old hg35 B3.out
      obtain ⟨⟨f0, f1, f2⟩, g0, g1, g2⟩ := trip_room2 R5
      obtain ⟨⟨k0, k1, k2⟩, FR, FV, FG⟩ := res_set (st := 0) R5 (ownR_nil w.heap.size 0 w5) (ownV_nil w.heap.size 0 w5) (grown_trans hg03 hg35) wRB
      generalize writeE r = z at *
      have h1' : (z != 0) = true := by simpa using h1
      have h1'' : (z == 0) = false := by simpa using h1
      clear e1 e2 R5 h1
      go_wp2
      refine bodyPost_ret (v := .tuple #[.agg #[.int .i64 0, .slice none 0 0, .slice none 0 0], .int .i64 z]) (by simp [results, Try.results22, go_sem, k0, k1, k2]) rfl ?_
      exact ⟨_, ret_txE HZ.out, tx_of HT.out FR FV, FG⟩
  · obtain ⟨e1, e2⟩ := HB1.out h0
    have HZ : Hid (Z = txE t) := e1
    have HT : Hid (ZT = ⟨0, [], []⟩) := e2
    have R4 := pair_old hg4 B3.out
    obtain ⟨⟨f0, f1, f2⟩, g0, g1, g2⟩ := trip_room2 R4
    obtain ⟨⟨k0, k1, k2⟩, FR, FV, FG⟩ := res_set (st := 0) R4 (ownR_nil w.heap.size 0 w4) (ownV_nil w.heap.size 0 w4) (grown_trans hg03 hg4) wRB
    generalize txE t = z at *
    have h0' : (z != 0) = true := by simpa using h0
    have h0'' : (z == 0) = false := by simpa using h0
    clear e1 e2 R4 h0
    go_wp2
    refine bodyPost_ret (v := .tuple #[.agg #[.int .i64 0, .slice none 0 0, .slice none 0 0], .int .i64 z]) (by simp [results, Try.results22, go_sem, k0, k1, k2]) rfl ?_
    exact ⟨_, ret_txE HZ.out, tx_of HT.out FR FV, FG⟩
end Go.Proofs.Ytpmfbfflacbmjac
