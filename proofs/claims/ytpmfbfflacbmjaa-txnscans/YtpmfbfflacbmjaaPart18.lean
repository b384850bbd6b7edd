/-
  Texts of this proof, joined: RTx1, RTx2.
-/
import Derived.Test.YtpmfbfflacbmjaaPart6
import Derived.Test.YtpmfbfflacbmjaaPart16
import Derived.Test.YtpmfbfflacbmjaaRKeyF
import Derived.Test.YtpmfbfflacbmjaaPart17
import Derived.Test.YtpmfbfflacbmjaaRWrF
import Derived.Deep.RegionHeld3
/-
  The walks of the document's answer to P8.1: readFault, sameRead, samePlace.
-/
namespace Go.Proofs.Ytpmfbfflacbmjaa
open Go.RowKit
set_option maxRecDepth 100000 in
set_option maxHeartbeats 2000000 in
theorem readFault_any (w : World) (v : Value) (r : Rd) (hv : ReadIs w v r) :
    Calls Try.prog 34 #[v] w fun e w' => e = .returned (.int .i64 (readE r)) ∧ w.grownBy w' none := by
  obtain ⟨na, nc, ka, kc, la, lc, rfl⟩ := hv.agg
  obtain ⟨W1, HW1, hgW, B1⟩ := alloc_namedX w (.cells #[.slice na r.name.length nc, .slice ka r.key.length kc, .bool r.wide, .slice la r.last.length lc] 33)
  obtain ⟨⟨a0, a1, a2, a3⟩, _⟩ := quad_room (grown_refl W1 none) B1.out
  have HE : Hid (readE r = if nameFaultF r.name.length = 0 then (if keyFaultF r.key.length = 0 then (if r.wide = true then keyFaultF r.last.length else (if 0 < r.last.length then 4 else 0)) else keyFaultF r.key.length) else nameFaultF r.name.length) := rfl
  generalize readE r = WE at *
  have NF : Hid (∀ w', Calls Try.prog 53 #[.slice na r.name.length nc] w' fun e w'' => e = .returned (.int .i64 (nameFaultF r.name.length)) ∧ w'' = w') := fun w' => nameFault_any w' na _ nc
  have KF : Hid (∀ w', Calls Try.prog 54 #[.slice ka r.key.length kc] w' fun e w'' => e = .returned (.int .i64 (keyFaultF r.key.length)) ∧ w'' = w') := fun w' => keyFault_any w' ka _ kc
  have LF : Hid (∀ w', Calls Try.prog 54 #[.slice la r.last.length lc] w' fun e w'' => e = .returned (.int .i64 (keyFaultF r.last.length)) ∧ w'' = w') := fun w' => keyFault_any w' la _ lc
  generalize nameFaultF r.name.length = NE at *
  generalize keyFaultF r.key.length = KE at *
  generalize keyFaultF r.last.length = LE at *
  generalize r.name.length = n1 at *
  generalize r.key.length = n2 at *
  generalize r.last.length = n3 at *
  generalize r.wide = wd at *
  clear hv
  by_cases h1 : NE = 0
  · by_cases h2 : KE = 0
    · cases wd with
      | true =>
        have HW : Hid (WE = LE) := by show _ = _; rw [HE.out, if_pos h1, if_pos h2, if_pos rfl]
        subst h1; subst h2
        clear HE
        by_cases h3 : LE = 0
        · subst h3
          go_enter Try.func34, Try.ntmps34
          go_wp2_with fail
          rw [← HW1.out]
          refine (NF.out _).mono ?_
          rintro e w1 ⟨rfl, rfl⟩
          go_wp2_with fail
          refine (KF.out _).mono ?_
          rintro e w2 ⟨rfl, rfl⟩
          go_wp2_with fail
          refine (LF.out _).mono ?_
          rintro e w3 ⟨rfl, rfl⟩
          go_wp2
          go_ret
          exact ⟨ret_intX HW.out, hgW⟩
        · have h3' : (LE == 0) = false := by simpa using h3
          clear h3
          go_enter Try.func34, Try.ntmps34
          go_wp2_with fail
          rw [← HW1.out]
          refine (NF.out _).mono ?_
          rintro e w1 ⟨rfl, rfl⟩
          go_wp2_with fail
          refine (KF.out _).mono ?_
          rintro e w2 ⟨rfl, rfl⟩
          go_wp2_with fail
          refine (LF.out _).mono ?_
          rintro e w3 ⟨rfl, rfl⟩
          go_wp2
          go_ret
          exact ⟨ret_intX HW.out, hgW⟩
      | false =>
        by_cases h3 : 0 < n3
        · have HW : Hid (WE = 4) := by show _ = _; rw [HE.out, if_pos h1, if_pos h2, if_neg (by decide), if_pos h3]
          have i3 : (n3 : Int) > 0 := by omega
          subst h1; subst h2
          clear HE
          go_enter Try.func34, Try.ntmps34
          go_wp2_with fail
          rw [← HW1.out]
          refine (NF.out _).mono ?_
          rintro e w1 ⟨rfl, rfl⟩
          go_wp2_with fail
          refine (KF.out _).mono ?_
          rintro e w2 ⟨rfl, rfl⟩
          go_wp2
          go_ret
          exact ⟨ret_intX HW.out, hgW⟩
        · have HW : Hid (WE = 0) := by show _ = _; rw [HE.out, if_pos h1, if_pos h2, if_neg (by decide), if_neg h3]
          have i3 : ¬ (n3 : Int) > 0 := by omega
          subst h1; subst h2
          clear HE
          go_enter Try.func34, Try.ntmps34
          go_wp2_with fail
          rw [← HW1.out]
          refine (NF.out _).mono ?_
          rintro e w1 ⟨rfl, rfl⟩
          go_wp2_with fail
          refine (KF.out _).mono ?_
          rintro e w2 ⟨rfl, rfl⟩
          go_wp2
          go_ret
          exact ⟨ret_intX HW.out, hgW⟩
    · have HW : Hid (WE = KE) := by show _ = _; rw [HE.out, if_pos h1, if_neg h2]
      have h2' : (KE == 0) = false := by simpa using h2
      subst h1
      clear HE h2
      go_enter Try.func34, Try.ntmps34
      go_wp2_with fail
      rw [← HW1.out]
      refine (NF.out _).mono ?_
      rintro e w1 ⟨rfl, rfl⟩
      go_wp2_with fail
      refine (KF.out _).mono ?_
      rintro e w2 ⟨rfl, rfl⟩
      go_wp2
      go_ret
      exact ⟨ret_intX HW.out, hgW⟩
  · have HW : Hid (WE = NE) := by show _ = _; rw [HE.out, if_neg h1]
    have h1' : (NE == 0) = false := by simpa using h1
    clear HE h1
    go_enter Try.func34, Try.ntmps34
    go_wp2_with fail
    rw [← HW1.out]
    refine (NF.out _).mono ?_
    rintro e w1 ⟨rfl, rfl⟩
    go_wp2
    go_ret
    exact ⟨ret_intX HW.out, hgW⟩
set_option maxRecDepth 100000 in
set_option maxHeartbeats 2000000 in
theorem sameRead_any (w : World) (v u : Value) (r q : Rd) (hv : ReadIs w v r) (hu : ReadIs w u q) :
    Calls Try.prog 35 #[v, u] w fun e w' => e = .returned (.bool (rdSame r q)) ∧ w.grownBy w' none := by
  obtain ⟨na, nc, ka, kc, la, lc, rfl⟩ := hv.agg
  obtain ⟨ma, mc, ja, jc, ha, hc, rfl⟩ := hu.agg
  obtain ⟨v1, v2, _, v3⟩ := hv.parts
  obtain ⟨u1, u2, _, u3⟩ := hu.parts
  obtain ⟨W1, HW1, hg1, B1⟩ := alloc_namedX w (.cells #[.slice na r.name.length nc, .slice ka r.key.length kc, .bool r.wide, .slice la r.last.length lc] 33)
  obtain ⟨W2, HW2, hg2, B2⟩ := alloc_namedX W1 (.cells #[.slice ma q.name.length mc, .slice ja q.key.length jc, .bool q.wide, .slice ha q.last.length hc] 33)
  have hg := grown_trans hg1 hg2
  obtain ⟨⟨a0, a1, a2, a3⟩, _⟩ := quad_room hg2 B1.out
  obtain ⟨⟨b0, b1, b2, b3⟩, _⟩ := quad_room (grown_refl W2 none) B2.out
  have SN : Hid (Calls Try.prog 55 #[.slice na r.name.length nc, .slice ma q.name.length mc] W2 fun e w' => e = .returned (.bool (decide (r.name = q.name))) ∧ w' = W2) := rsame_any W2 _ _ _ _ (v1.grown hg) (u1.grown hg)
  have SK : Hid (Calls Try.prog 55 #[.slice ka r.key.length kc, .slice ja q.key.length jc] W2 fun e w' => e = .returned (.bool (decide (r.key = q.key))) ∧ w' = W2) := rsame_any W2 _ _ _ _ (v2.grown hg) (u2.grown hg)
  have SL : Hid (Calls Try.prog 55 #[.slice la r.last.length lc, .slice ha q.last.length hc] W2 fun e w' => e = .returned (.bool (decide (r.last = q.last))) ∧ w' = W2) := rsame_any W2 _ _ _ _ (v3.grown hg) (u3.grown hg)
  have HE : Hid (rdSame r q = (r.wide == q.wide && (decide (r.name = q.name) && (decide (r.key = q.key) && decide (r.last = q.last))))) := rfl
  obtain ⟨Z, hZ⟩ : ∃ Z, Z = rdSame r q := ⟨_, rfl⟩
  rw [← hZ] at HE ⊢
  have HX : Hid (W2 = (w.alloc (.cells #[.slice na r.name.length nc, .slice ka r.key.length kc, .bool r.wide, .slice la r.last.length lc] 33)).alloc (.cells #[.slice ma q.name.length mc, .slice ja q.key.length jc, .bool q.wide, .slice ha q.last.length hc] 33)) := by show _ = _; rw [HW2.out, HW1.out]
  have hsz : W1.heap.size = w.heap.size + 1 := by rw [HW1.out]; simp
  rw [hsz] at b0 b1 b2 b3
  clear hZ hv hu v1 v2 v3 u1 u2 u3 hsz B1 B2 HW1 HW2
  generalize decide (r.name = q.name) = EN at *
  generalize decide (r.key = q.key) = EK at *
  generalize decide (r.last = q.last) = EL at *
  generalize r.name.length = n1 at *
  generalize r.key.length = n2 at *
  generalize r.last.length = n3 at *
  generalize q.name.length = n4 at *
  generalize q.key.length = n5 at *
  generalize q.last.length = n6 at *
  generalize r.wide = wr at *
  generalize q.wide = wq at *
  cases wr <;> cases wq
  case false.true | true.false =>
    all_goals
      have HZ : Hid (Z = false) := by show _ = _; rw [HE.out]; rfl
      clear HE
      go_enter Try.func35, Try.ntmps35
      go_upto_region 1 with fail
      rw [← HX.out]
      go_wp2
      go_ret
      exact ⟨ret_boolX HZ.out, hg⟩
  all_goals
    cases EN
    · have HZ : Hid (Z = false) := by show _ = _; rw [HE.out]; rfl
      clear HE
      go_enter Try.func35, Try.ntmps35
      go_upto_region 1 with fail
      rw [← HX.out]
      go_wp2_with fail
      refine SN.out.mono ?_
      rintro e w1 ⟨rfl, rfl⟩
      go_wp2
      go_ret
      exact ⟨ret_boolX HZ.out, hg⟩
    · cases EK
      · have HZ : Hid (Z = false) := by show _ = _; rw [HE.out]; rfl
        clear HE
        go_enter Try.func35, Try.ntmps35
        go_upto_region 1 with fail
        rw [← HX.out]
        go_wp2_with fail
        refine SN.out.mono ?_
        rintro e w1 ⟨rfl, rfl⟩
        go_wp2_with fail
        refine SK.out.mono ?_
        rintro e w1 ⟨rfl, rfl⟩
        go_wp2
        go_ret
        exact ⟨ret_boolX HZ.out, hg⟩
      · have HZ : Hid (Z = EL) := by show _ = _; rw [HE.out]; rfl
        clear HE
        go_enter Try.func35, Try.ntmps35
        go_upto_region 1 with fail
        rw [← HX.out]
        go_wp2_with fail
        refine SN.out.mono ?_
        rintro e w1 ⟨rfl, rfl⟩
        go_wp2_with fail
        refine SK.out.mono ?_
        rintro e w1 ⟨rfl, rfl⟩
        go_wp2_with fail
        refine SL.out.mono ?_
        rintro e w1 ⟨rfl, rfl⟩
        go_wp2
        go_ret
        exact ⟨ret_boolX HZ.out, hg⟩
set_option maxRecDepth 100000 in
set_option maxHeartbeats 2000000 in
theorem samePlace_any (w : World) (v u : Value) (p q : Plc) (hv : WriteIs w v p) (hu : WriteIs w u q) :
    Calls Try.prog 37 #[v, u] w fun e w' => e = .returned (.bool (plSame p q)) ∧ w.grownBy w' none := by
  obtain ⟨na, nc, ka, kc, la, lc, rfl⟩ := hv.aggW
  obtain ⟨ma, mc, ja, jc, ha, hc, rfl⟩ := hu.aggW
  obtain ⟨x1, x2, x3, ex, v1, v2, v3⟩ := hv
  obtain ⟨y1, y2, y3, ey, u1, u2, u3⟩ := hu
  simp only [Value.agg.injEq, Array.mk.injEq, List.cons.injEq, and_true] at ex ey
  obtain ⟨rfl, rfl, _, rfl⟩ := ex
  obtain ⟨rfl, rfl, _, rfl⟩ := ey
  obtain ⟨W1, HW1, hg1, B1⟩ := alloc_namedX w (.cells #[.slice na p.name.length nc, .slice ka p.key.length kc, .bool p.gone, .slice la p.value.length lc] 39)
  obtain ⟨W2, HW2, hg2, B2⟩ := alloc_namedX W1 (.cells #[.slice ma q.name.length mc, .slice ja q.key.length jc, .bool q.gone, .slice ha q.value.length hc] 39)
  have hg := grown_trans hg1 hg2
  obtain ⟨⟨a0, a1, a2, a3⟩, _⟩ := quad_room hg2 B1.out
  obtain ⟨⟨b0, b1, b2, b3⟩, _⟩ := quad_room (grown_refl W2 none) B2.out
  have SN : Hid (Calls Try.prog 55 #[.slice na p.name.length nc, .slice ma q.name.length mc] W2 fun e w' => e = .returned (.bool (decide (p.name = q.name))) ∧ w' = W2) := rsame_any W2 _ _ _ _ (v1.grown hg) (u1.grown hg)
  have SK : Hid (Calls Try.prog 55 #[.slice ka p.key.length kc, .slice ja q.key.length jc] W2 fun e w' => e = .returned (.bool (decide (p.key = q.key))) ∧ w' = W2) := rsame_any W2 _ _ _ _ (v2.grown hg) (u2.grown hg)
  have HE : Hid (plSame p q = (decide (p.name = q.name) && decide (p.key = q.key))) := rfl
  obtain ⟨Z, hZ⟩ : ∃ Z, Z = plSame p q := ⟨_, rfl⟩
  rw [← hZ] at HE ⊢
  have HX : Hid (W2 = (w.alloc (.cells #[.slice na p.name.length nc, .slice ka p.key.length kc, .bool p.gone, .slice la p.value.length lc] 39)).alloc (.cells #[.slice ma q.name.length mc, .slice ja q.key.length jc, .bool q.gone, .slice ha q.value.length hc] 39)) := by show _ = _; rw [HW2.out, HW1.out]
  have hsz : W1.heap.size = w.heap.size + 1 := by rw [HW1.out]; simp
  rw [hsz] at b0 b1 b2 b3
  clear hZ v1 v2 v3 u1 u2 u3 hsz B1 B2 HW1 HW2
  generalize decide (p.name = q.name) = EN at *
  generalize decide (p.key = q.key) = EK at *
  cases EN with
  | false =>
    have HZ : Hid (Z = false) := by show _ = _; rw [HE.out]; rfl
    clear HE
    go_enter Try.func37, Try.ntmps37
    go_upto_region 1 with fail
    rw [← HX.out]
    go_wp2_with fail
    refine SN.out.mono ?_
    rintro e w1 ⟨rfl, rfl⟩
    go_wp2
    go_ret
    exact ⟨ret_boolX HZ.out, hg⟩
  | true =>
    have HZ : Hid (Z = EK) := by show _ = _; rw [HE.out]; rfl
    clear HE
    go_enter Try.func37, Try.ntmps37
    go_upto_region 1 with fail
    rw [← HX.out]
    go_wp2_with fail
    refine SN.out.mono ?_
    rintro e w1 ⟨rfl, rfl⟩
    go_wp2_with fail
    refine SK.out.mono ?_
    rintro e w1 ⟨rfl, rfl⟩
    go_wp2
    go_ret
    exact ⟨ret_boolX HZ.out, hg⟩
end Go.Proofs.Ytpmfbfflacbmjaa

/-
  The walk of the document's answer to P8.2: TxnFault.
-/
namespace Go.Proofs.Ytpmfbfflacbmjaa
open Go.RowKit
set_option maxRecDepth 100000 in
set_option maxHeartbeats 4000000 in
theorem txnFault_any (w : World) (v : Value) (t : Tx) (hv : TxIs w v t) (hf : FitsX t) :
    Calls Try.prog 11 #[v] w fun e w' => e = .returned (.int .i64 (txE t)) ∧ w.grownBy w' none := by
  obtain ⟨ra, rc, wa, wc, rfl⟩ := hv.agg
  obtain ⟨_, hr, hw⟩ := hv.parts
  obtain ⟨W1, HW1, hg1, B1⟩ := alloc_namedX w (.cells #[.int .i64 t.start, .slice ra t.reads.length rc, .slice wa t.writes.length wc] 25)
  obtain ⟨q0, q1, q2⟩ := trip_room (grown_refl W1 none) B1.out
  have HR : Hid (ReadsIs W1 (.slice ra t.reads.length rc) t.reads) := hr.grown hg1
  have HV : Hid (WritesIs W1 (.slice wa t.writes.length wc) t.writes) := hw.grown hg1
  have hrl := hf.reads.many
  have hwl := hf.writes.many
  have IN : Hid (Calls Try.prog 33 #[.int .i64 t.start, .int .i64 0, .int .i64 1048576] W1 fun e w' => e = .returned (.bool (decide (0 ≤ t.start ∧ t.start ≤ 1048576))) ∧ w' = W1) := in_any t.start 0 1048576 W1
  obtain ⟨Z, hZ⟩ : ∃ Z, Z = txE t := ⟨_, rfl⟩
  have HZ : Hid (Z = if 0 ≤ t.start ∧ t.start ≤ 1048576 then (if 20 < t.reads.length ∨ 10 < t.writes.length then 1 else (if rdsE [] t.reads = 0 then wrsE [] t.writes else rdsE [] t.reads)) else 2) := hZ
  rw [← hZ]
  clear hZ hv hr hw hf
  by_cases h1 : 0 ≤ t.start ∧ t.start ≤ 1048576
  · rw [decide_eq_true h1] at IN
    by_cases h2 : 20 < t.reads.length
    · have HZ1 : Hid (Z = 1) := by show _ = _; rw [HZ.out, if_pos h1, if_pos (.inl h2)]
      have i2 : (t.reads.length : Int) > 20 := by omega
      clear h1 h2 HZ
      go_enter Try.func11, Try.ntmps11
      go_upto_region 1 with fail
      rw [← HW1.out]
      go_wp2_with fail
      refine IN.out.mono ?_
      rintro e w1 ⟨rfl, rfl⟩
      go_wp2
      go_ret
      exact ⟨ret_intX HZ1.out, hg1⟩
    · by_cases h3 : 10 < t.writes.length
      · have HZ1 : Hid (Z = 1) := by show _ = _; rw [HZ.out, if_pos h1, if_pos (.inr h3)]
        have i2 : ¬ (t.reads.length : Int) > 20 := by omega
        have i3 : (t.writes.length : Int) > 10 := by omega
        clear h1 h2 h3 HZ
        go_enter Try.func11, Try.ntmps11
        go_upto_region 1 with fail
        rw [← HW1.out]
        go_wp2_with fail
        refine IN.out.mono ?_
        rintro e w1 ⟨rfl, rfl⟩
        go_wp2
        go_ret
        exact ⟨ret_intX HZ1.out, hg1⟩
      · have HZ2 : Hid (Z = if rdsE [] t.reads = 0 then wrsE [] t.writes else rdsE [] t.reads) := by show _ = _; rw [HZ.out, if_pos h1, if_neg (by omega)]
        have i2 : ¬ (t.reads.length : Int) > 20 := by omega
        have i3 : ¬ (t.writes.length : Int) > 10 := by omega
        have hr20 : t.reads.length ≤ 20 := by omega
        have hw10 : t.writes.length ≤ 10 := by omega
        generalize t.reads = R at *
        generalize t.writes = V at *
        generalize t.start = st at *
        clear h1 h2 h3 HZ
        go_enter Try.func11, Try.ntmps11
        go_upto_region 1 with fail
        rw [← HW1.out]
        obtain ⟨XB, hXB⟩ : ∃ XB, XB = w.heap.size := ⟨_, rfl⟩
        rw [← hXB] at B1 q0 q1 q2 ⊢
        clear hXB
        go_wp2_with fail
        refine IN.out.mono ?_
        rintro e w1 ⟨rfl, rfl⟩
        go_wp2_with fail
        clear q0 q1 q2 IN
        go_loopw [3] (fun s3 wr => ∃ m : Nat, s3 = .int .i64 (m : Int) ∧ m ≤ R.length ∧ Z = (if rdsE (R.take m) (R.drop m) = 0 then wrsE [] V else rdsE (R.take m) (R.drop m)) ∧ w1.grownBy wr none) (fun s3 _ => R.length - (intOf s3).toNat)
        case atStart => exact ⟨0, rfl, by omega, HZ2.out, grown_refl _ _⟩
        case round =>
          obtain ⟨m, rfl, hm, hz, hg⟩ := hrel
          obtain ⟨c0, c1, c2⟩ := trip_room hg B1.out
          by_cases hlt : m < R.length
          · have i1 : (m : Int) < (R.length : Int) := by omega
            obtain ⟨b, o, rfl, y1, y2, y3, y4, y5, y6, ⟨x1w, x2w, x3w, x4w⟩, hrd⟩ := reads_cells HR.out m hlt
            have x1 := hg.cell x1w (by simp)
            have x2 := hg.cell x2w (by simp)
            have x3 := hg.cell x3w (by simp)
            have x4 := hg.cell x4w (by simp)
            rw [rds_step _ m hlt] at hz
            have RF : Hid (∀ w', w1.grownBy w' none → Calls Try.prog 34 #[.agg #[.slice y1 (R.getD m noRd).name.length y2, .slice y3 (R.getD m noRd).key.length y4, .bool (R.getD m noRd).wide, .slice y5 (R.getD m noRd).last.length y6]] w' fun e w'' => e = .returned (.int .i64 (readE (R.getD m noRd))) ∧ w'.grownBy w'' none) := fun w' h => readFault_any w' _ _ (hrd.grown h)
            have CE : Hid (∀ k, k < m → ∃ u1 l1 u2 u3 l2 u4 u5 l3 u6, (w1.cell? ⟨b, o + k * 4, none⟩ = some (.slice u1 l1 u2) ∧ w1.cell? ⟨b, o + k * 4 + 1, none⟩ = some (.slice u3 l2 u4) ∧ w1.cell? ⟨b, o + k * 4 + 2, none⟩ = some (.bool (R.getD k noRd).wide) ∧ w1.cell? ⟨b, o + k * 4 + 3, none⟩ = some (.slice u5 l3 u6)) ∧ ∀ w', w1.grownBy w' none → Calls Try.prog 35 #[.agg #[.slice u1 l1 u2, .slice u3 l2 u4, .bool (R.getD k noRd).wide, .slice u5 l3 u6], .agg #[.slice y1 (R.getD m noRd).name.length y2, .slice y3 (R.getD m noRd).key.length y4, .bool (R.getD m noRd).wide, .slice y5 (R.getD m noRd).last.length y6]] w' fun e w'' => e = .returned (.bool (rdSame (R.getD k noRd) (R.getD m noRd))) ∧ w'.grownBy w'' none) := fun k hk => by
              obtain ⟨b', o', he, u1, u2, u3, u4, u5, u6, hc, hrk⟩ := reads_cells HR.out k (by omega)
              simp only [Option.some.injEq, Addr.mk.injEq] at he
              obtain ⟨rfl, rfl, _⟩ := he
              exact ⟨u1, _, u2, u3, _, u4, u5, _, u6, hc, fun w' h => sameRead_any w' _ _ _ _ (hrk.grown h) (hrd.grown h)⟩
            have AS : Hid (∀ k, k < m → (R.take (k + 1)).any (fun q => rdSame q (R.getD m noRd)) = ((R.take k).any (fun q => rdSame q (R.getD m noRd)) || rdSame (R.getD k noRd) (R.getD m noRd))) := fun k hk => any_takeS noRd (fun q => rdSame q (R.getD m noRd)) _ k (by omega)
            have AT : Hid (∀ k, k < m → rdSame (R.getD k noRd) (R.getD m noRd) = true → (R.take m).any (fun q => rdSame q (R.getD m noRd)) = true) := fun k hk h => any_takeT noRd (fun q => rdSame q (R.getD m noRd)) _ k m hk (by omega) h
            have HD1 : Hid (rdE1 (R.take m) (R.getD m noRd) = if readE (R.getD m noRd) = 0 then (if (R.take m).any (fun q => rdSame q (R.getD m noRd)) = true then 3 else 0) else readE (R.getD m noRd)) := rfl
            generalize rdE1 (R.take m) (R.getD m noRd) = D1 at *
            have HZM : Hid (Z = if (if D1 = 0 then rdsE (R.take (m + 1)) (R.drop (m + 1)) else D1) = 0 then wrsE [] V else (if D1 = 0 then rdsE (R.take (m + 1)) (R.drop (m + 1)) else D1)) := hz
            clear hz hrd
            generalize (R.getD m noRd).name.length = n1 at *
            generalize (R.getD m noRd).key.length = n2 at *
            generalize (R.getD m noRd).last.length = n3 at *
            generalize (R.getD m noRd).wide = wd at *
            generalize R.getD m noRd = P at *
            generalize readE P = RE at *
            go_wp2_with fail
            refine (RF.out _ hg).mono ?_
            rintro e w2 ⟨rfl, hg2⟩
            have hgw2 := grown_trans hg hg2
            have XM : Hid (w1.cell? ⟨b, o + m * 4, none⟩ = some (.slice y1 n1 y2) ∧ w1.cell? ⟨b, o + m * 4 + 1, none⟩ = some (.slice y3 n2 y4) ∧ w1.cell? ⟨b, o + m * 4 + 2, none⟩ = some (.bool wd) ∧ w1.cell? ⟨b, o + m * 4 + 3, none⟩ = some (.slice y5 n3 y6)) := ⟨x1w, x2w, x3w, x4w⟩
            clear x1 x2 x3 x4 c0 c1 c2 x1w x2w x3w x4w RF
            go_wp2_with fail
            go_loopw [4, 5] (fun s4 s5 wr2 => ∃ e : Int, s4 = .int .i64 e ∧ ∃ k : Nat, s5 = .int .i64 (k : Int) ∧ k ≤ m ∧ ((e = 0 ∧ RE = 0 ∧ (R.take k).any (fun q => rdSame q P) = false) ∨ (e ≠ 0 ∧ e = D1)) ∧ w1.grownBy wr2 none) (fun _ s5 _ => m - (intOf s5).toNat)
            case atStart =>
              refine ⟨RE, rfl, 0, rfl, by omega, ?_, hgw2⟩
              by_cases h0 : RE = 0
              · exact .inl ⟨h0, h0, by simp⟩
              · exact .inr ⟨h0, by rw [HD1.out, if_neg h0]⟩
            case round =>
              obtain ⟨e, rfl, k, rfl, hk, hcase, hg3⟩ := hrel
              obtain ⟨c0, c1, c2⟩ := trip_room hg3 B1.out
              rcases hcase with ⟨he0, hRE, hany⟩ | ⟨he0, heD⟩
              · subst he0
                have HRE : Hid (RE = 0) := hRE
                have HAN : Hid ((R.take k).any (fun q => rdSame q P) = false) := hany
                clear hRE hany
                by_cases hkm : k < m
                · have j2 : (k : Int) < (m : Int) := by omega
                  have j3 : (k : Int) < (R.length : Int) := by omega
                  obtain ⟨u1, l1, u2, u3, l2, u4, u5, l3, u6, ⟨o1, o2, o3, o4⟩, hsr⟩ := CE.out k hkm
                  obtain ⟨p1, p2, p3, p4⟩ := XM.out
                  have z1 := hg3.cell o1 (by simp)
                  have z2 := hg3.cell o2 (by simp)
                  have z3 := hg3.cell o3 (by simp)
                  have z4 := hg3.cell o4 (by simp)
                  have t1 := hg3.cell p1 (by simp)
                  have t2 := hg3.cell p2 (by simp)
                  have t3 := hg3.cell p3 (by simp)
                  have t4 := hg3.cell p4 (by simp)
                  have hA1 := AS.out k hkm
                  have hA2 := AT.out k hkm
                  generalize (R.getD k noRd).wide = wk at *
                  obtain ⟨BS, hBS⟩ : ∃ BS, BS = rdSame (R.getD k noRd) P := ⟨_, rfl⟩
                  rw [← hBS] at hsr hA1 hA2
                  have SRk : Hid (∀ w', w1.grownBy w' none → Calls Try.prog 35 #[.agg #[.slice u1 l1 u2, .slice u3 l2 u4, .bool wk, .slice u5 l3 u6], .agg #[.slice y1 n1 y2, .slice y3 n2 y4, .bool wd, .slice y5 n3 y6]] w' fun e w'' => e = .returned (.bool BS) ∧ w'.grownBy w'' none) := hsr
                  have HA1 : Hid ((R.take (k + 1)).any (fun q => rdSame q P) = ((R.take k).any (fun q => rdSame q P) || BS)) := hA1
                  have HA2 : Hid (BS = true → (R.take m).any (fun q => rdSame q P) = true) := hA2
                  clear hsr hA1 hA2 hBS o1 o2 o3 o4 p1 p2 p3 p4
                  go_wp2_with fail
                  have hgd : wr.grownBy wr.drew none := grown_drew (grown_refl _ _)
                  have e0 := hgd.cell c1 (by simp)
                  have e1 := hgd.cell z1 (by simp)
                  have e2 := hgd.cell z2 (by simp)
                  have e3 := hgd.cell z3 (by simp)
                  have e4 := hgd.cell z4 (by simp)
                  have f1 := hgd.cell t1 (by simp)
                  have f2 := hgd.cell t2 (by simp)
                  have f3 := hgd.cell t3 (by simp)
                  have f4 := hgd.cell t4 (by simp)
                  go_region_held3 (fun w' => w'.cell? ⟨XB, 1, none⟩ = some (.slice (some ⟨b, o, none⟩) R.length rc) ∧ w'.cell? ⟨b, o + k * 4, none⟩ = some (.slice u1 l1 u2) ∧ w'.cell? ⟨b, o + k * 4 + 1, none⟩ = some (.slice u3 l2 u4) ∧ w'.cell? ⟨b, o + k * 4 + 2, none⟩ = some (.bool wk) ∧ w'.cell? ⟨b, o + k * 4 + 3, none⟩ = some (.slice u5 l3 u6) ∧ w'.cell? ⟨b, o + m * 4, none⟩ = some (.slice y1 n1 y2) ∧ w'.cell? ⟨b, o + m * 4 + 1, none⟩ = some (.slice y3 n2 y4) ∧ w'.cell? ⟨b, o + m * 4 + 2, none⟩ = some (.bool wd) ∧ w'.cell? ⟨b, o + m * 4 + 3, none⟩ = some (.slice y5 n3 y6))
                    (first | exact ⟨e0, e1, e2, e3, e4, f1, f2, f3, f4⟩ | exact ⟨hg4.cell e0 (by simp), hg4.cell e1 (by simp), hg4.cell e2 (by simp), hg4.cell e3 (by simp), hg4.cell e4 (by simp), hg4.cell f1 (by simp), hg4.cell f2 (by simp), hg4.cell f3 (by simp), hg4.cell f4 (by simp)⟩)
                    (first
                      | (go_at_call 35; refine (SRk.out _ (grown_trans hg3 hgd)).mono ?_; rintro e w4 ⟨rfl, hg4⟩))
                  have hgw4 := grown_trans hg3 (grown_trans hgd hg4)
                  clear e0 e1 e2 e3 e4 f1 f2 f3 f4 z1 z2 z3 z4 t1 t2 t3 t4 c0 c1 c2 SRk
                  cases BS with
                  | true =>
                    have HD3 : Hid ((3 : Int) = D1) := by show _ = _; rw [HD1.out, if_pos HRE.out, if_pos (HA2.out rfl)]
                    clear HA1 HA2
                    go_wp2_with fail
                    go_roundw
                    case rel =>
                      first
                        | exact ⟨3, rfl, k + 1, by go_num, by omega, .inr ⟨by omega, HD3.out⟩, hgw4⟩
                        | ((repeat apply Exists.intro); refine ⟨⟨3, rfl, k + 1, ?_, by omega, .inr ⟨by omega, HD3.out⟩, hgw4⟩, rfl⟩; go_num)
                    case measure => simp [intOf]; omega
                  | false =>
                    have HN : Hid ((R.take (k + 1)).any (fun q => rdSame q P) = false) := by show _ = _; rw [HA1.out, HAN.out]; rfl
                    clear HA1 HA2
                    go_wp2_with fail
                    go_roundw
                    case rel =>
                      first
                        | exact ⟨0, rfl, k + 1, by go_num, by omega, .inl ⟨rfl, HRE.out, HN.out⟩, hgw4⟩
                        | ((repeat apply Exists.intro); refine ⟨⟨0, rfl, k + 1, ?_, by omega, .inl ⟨rfl, HRE.out, HN.out⟩, hgw4⟩, rfl⟩; go_num)
                    case measure => simp [intOf]; omega
                · obtain rfl : k = m := by omega
                  have j2 : ¬ (k : Int) < (k : Int) := by omega
                  have HZN : Hid (Z = if rdsE (R.take (k + 1)) (R.drop (k + 1)) = 0 then wrsE [] V else rdsE (R.take (k + 1)) (R.drop (k + 1))) := by
                    show _ = _
                    have hd : D1 = 0 := by rw [HD1.out, if_pos HRE.out, HAN.out]; simp
                    rw [HZM.out, if_pos hd]
                  clear c0 c1 c2
                  go_wp2_with fail
                  go_roundw
                  case rel =>
                    first
                      | exact ⟨k + 1, by go_num, by omega, HZN.out, hg3⟩
                      | ((repeat apply Exists.intro); refine ⟨⟨k + 1, ?_, by omega, HZN.out, hg3⟩, rfl⟩; go_num)
                  case measure => simp [intOf]; omega
              · have HZN : Hid (Z = e) := by
                  show _ = _
                  have hd : ¬ D1 = 0 := by rw [← heD]; exact he0
                  rw [HZM.out, if_neg hd, if_neg hd, heD]
                have he1 : (e == 0) = false := by simpa using he0
                have he2 : (e != 0) = true := by simpa using he0
                clear c0 c1 c2 heD he0
                by_cases hkm : k < m
                · have j2 : (k : Int) < (m : Int) := by omega
                  go_wp2
                  go_ret
                  exact ⟨ret_intX HZN.out, grown_trans hg1 hg3⟩
                · obtain rfl : k = m := by omega
                  have j2 : ¬ (k : Int) < (k : Int) := by omega
                  go_wp2
                  go_ret
                  exact ⟨ret_intX HZN.out, grown_trans hg1 hg3⟩
          · obtain rfl : m = R.length := by omega
            have i1 : ¬ (R.length : Int) < (R.length : Int) := by omega
            have HZ3 : Hid (Z = wrsE (V.take 0) (V.drop 0)) := by
              show _ = _
              rw [hz, List.drop_length, rdsE, if_pos rfl]; rfl
            clear hz
            go_wp2_with fail
            clear c0 c1 c2
            go_loopw [6] (fun s3 wr => ∃ m : Nat, s3 = .int .i64 (m : Int) ∧ m ≤ V.length ∧ Z = wrsE (V.take m) (V.drop m) ∧ w1.grownBy wr none) (fun s3 _ => V.length - (intOf s3).toNat)
            case atStart => exact ⟨0, rfl, by omega, HZ3.out, hg⟩
            case round =>
              obtain ⟨m, rfl, hm, hz, hg⟩ := hrel
              obtain ⟨c0, c1, c2⟩ := trip_room hg B1.out
              by_cases hlt : m < V.length
              · have i1 : (m : Int) < (V.length : Int) := by omega
                obtain ⟨b, o, rfl, y1, y2, y3, y4, y5, y6, ⟨x1w, x2w, x3w, x4w⟩, hrd⟩ := writes_cells HV.out m hlt
                have x1 := hg.cell x1w (by simp)
                have x2 := hg.cell x2w (by simp)
                have x3 := hg.cell x3w (by simp)
                have x4 := hg.cell x4w (by simp)
                rw [wrs_step _ m hlt] at hz
                have RF : Hid (∀ w', w1.grownBy w' none → Calls Try.prog 36 #[.agg #[.slice y1 (V.getD m noPlc).name.length y2, .slice y3 (V.getD m noPlc).key.length y4, .bool (V.getD m noPlc).gone, .slice y5 (V.getD m noPlc).value.length y6]] w' fun e w'' => e = .returned (.int .i64 (writeE (V.getD m noPlc))) ∧ w'.grownBy w'' none) := fun w' h => writeFault_any w' _ _ (hrd.grown h)
                have CE : Hid (∀ k, k < m → ∃ u1 l1 u2 u3 l2 u4 u5 l3 u6, (w1.cell? ⟨b, o + k * 4, none⟩ = some (.slice u1 l1 u2) ∧ w1.cell? ⟨b, o + k * 4 + 1, none⟩ = some (.slice u3 l2 u4) ∧ w1.cell? ⟨b, o + k * 4 + 2, none⟩ = some (.bool (V.getD k noPlc).gone) ∧ w1.cell? ⟨b, o + k * 4 + 3, none⟩ = some (.slice u5 l3 u6)) ∧ ∀ w', w1.grownBy w' none → Calls Try.prog 37 #[.agg #[.slice u1 l1 u2, .slice u3 l2 u4, .bool (V.getD k noPlc).gone, .slice u5 l3 u6], .agg #[.slice y1 (V.getD m noPlc).name.length y2, .slice y3 (V.getD m noPlc).key.length y4, .bool (V.getD m noPlc).gone, .slice y5 (V.getD m noPlc).value.length y6]] w' fun e w'' => e = .returned (.bool (plSame (V.getD k noPlc) (V.getD m noPlc))) ∧ w'.grownBy w'' none) := fun k hk => by
                  obtain ⟨b', o', he, u1, u2, u3, u4, u5, u6, hc, hrk⟩ := writes_cells HV.out k (by omega)
                  simp only [Option.some.injEq, Addr.mk.injEq] at he
                  obtain ⟨rfl, rfl, _⟩ := he
                  exact ⟨u1, _, u2, u3, _, u4, u5, _, u6, hc, fun w' h => samePlace_any w' _ _ _ _ (hrk.grown h) (hrd.grown h)⟩
                have AS : Hid (∀ k, k < m → (V.take (k + 1)).any (fun q => plSame q (V.getD m noPlc)) = ((V.take k).any (fun q => plSame q (V.getD m noPlc)) || plSame (V.getD k noPlc) (V.getD m noPlc))) := fun k hk => any_takeS noPlc (fun q => plSame q (V.getD m noPlc)) _ k (by omega)
                have AT : Hid (∀ k, k < m → plSame (V.getD k noPlc) (V.getD m noPlc) = true → (V.take m).any (fun q => plSame q (V.getD m noPlc)) = true) := fun k hk h => any_takeT noPlc (fun q => plSame q (V.getD m noPlc)) _ k m hk (by omega) h
                have HD1 : Hid (wrE1 (V.take m) (V.getD m noPlc) = if writeE (V.getD m noPlc) = 0 then (if (V.take m).any (fun q => plSame q (V.getD m noPlc)) = true then 3 else 0) else writeE (V.getD m noPlc)) := rfl
                generalize wrE1 (V.take m) (V.getD m noPlc) = D1 at *
                have HZM : Hid (Z = if D1 = 0 then wrsE (V.take (m + 1)) (V.drop (m + 1)) else D1) := hz
                clear hz hrd
                generalize (V.getD m noPlc).name.length = n1 at *
                generalize (V.getD m noPlc).key.length = n2 at *
                generalize (V.getD m noPlc).value.length = n3 at *
                generalize (V.getD m noPlc).gone = wd at *
                generalize V.getD m noPlc = P at *
                generalize writeE P = RE at *
                go_wp2_with fail
                refine (RF.out _ hg).mono ?_
                rintro e w2 ⟨rfl, hg2⟩
                have hgw2 := grown_trans hg hg2
                have XM : Hid (w1.cell? ⟨b, o + m * 4, none⟩ = some (.slice y1 n1 y2) ∧ w1.cell? ⟨b, o + m * 4 + 1, none⟩ = some (.slice y3 n2 y4) ∧ w1.cell? ⟨b, o + m * 4 + 2, none⟩ = some (.bool wd) ∧ w1.cell? ⟨b, o + m * 4 + 3, none⟩ = some (.slice y5 n3 y6)) := ⟨x1w, x2w, x3w, x4w⟩
                clear x1 x2 x3 x4 c0 c1 c2 x1w x2w x3w x4w RF
                go_wp2_with fail
                go_loopw [7, 8] (fun s4 s5 wr2 => ∃ e : Int, s4 = .int .i64 e ∧ ∃ k : Nat, s5 = .int .i64 (k : Int) ∧ k ≤ m ∧ ((e = 0 ∧ RE = 0 ∧ (V.take k).any (fun q => plSame q P) = false) ∨ (e ≠ 0 ∧ e = D1)) ∧ w1.grownBy wr2 none) (fun _ s5 _ => m - (intOf s5).toNat)
                case atStart =>
                  refine ⟨RE, rfl, 0, rfl, by omega, ?_, hgw2⟩
                  by_cases h0 : RE = 0
                  · exact .inl ⟨h0, h0, by simp⟩
                  · exact .inr ⟨h0, by rw [HD1.out, if_neg h0]⟩
                case round =>
                  obtain ⟨e, rfl, k, rfl, hk, hcase, hg3⟩ := hrel
                  obtain ⟨c0, c1, c2⟩ := trip_room hg3 B1.out
                  rcases hcase with ⟨he0, hRE, hany⟩ | ⟨he0, heD⟩
                  · subst he0
                    have HRE : Hid (RE = 0) := hRE
                    have HAN : Hid ((V.take k).any (fun q => plSame q P) = false) := hany
                    clear hRE hany
                    by_cases hkm : k < m
                    · have j2 : (k : Int) < (m : Int) := by omega
                      have j3 : (k : Int) < (V.length : Int) := by omega
                      obtain ⟨u1, l1, u2, u3, l2, u4, u5, l3, u6, ⟨o1, o2, o3, o4⟩, hsr⟩ := CE.out k hkm
                      obtain ⟨p1, p2, p3, p4⟩ := XM.out
                      have z1 := hg3.cell o1 (by simp)
                      have z2 := hg3.cell o2 (by simp)
                      have z3 := hg3.cell o3 (by simp)
                      have z4 := hg3.cell o4 (by simp)
                      have t1 := hg3.cell p1 (by simp)
                      have t2 := hg3.cell p2 (by simp)
                      have t3 := hg3.cell p3 (by simp)
                      have t4 := hg3.cell p4 (by simp)
                      have hA1 := AS.out k hkm
                      have hA2 := AT.out k hkm
                      generalize (V.getD k noPlc).gone = wk at *
                      obtain ⟨BS, hBS⟩ : ∃ BS, BS = plSame (V.getD k noPlc) P := ⟨_, rfl⟩
                      rw [← hBS] at hsr hA1 hA2
                      have SRk : Hid (∀ w', w1.grownBy w' none → Calls Try.prog 37 #[.agg #[.slice u1 l1 u2, .slice u3 l2 u4, .bool wk, .slice u5 l3 u6], .agg #[.slice y1 n1 y2, .slice y3 n2 y4, .bool wd, .slice y5 n3 y6]] w' fun e w'' => e = .returned (.bool BS) ∧ w'.grownBy w'' none) := hsr
                      have HA1 : Hid ((V.take (k + 1)).any (fun q => plSame q P) = ((V.take k).any (fun q => plSame q P) || BS)) := hA1
                      have HA2 : Hid (BS = true → (V.take m).any (fun q => plSame q P) = true) := hA2
                      clear hsr hA1 hA2 hBS o1 o2 o3 o4 p1 p2 p3 p4
                      go_wp2_with fail
                      have hgd : wr.grownBy wr.drew none := grown_drew (grown_refl _ _)
                      have e0 := hgd.cell c2 (by simp)
                      have e1 := hgd.cell z1 (by simp)
                      have e2 := hgd.cell z2 (by simp)
                      have e3 := hgd.cell z3 (by simp)
                      have e4 := hgd.cell z4 (by simp)
                      have f1 := hgd.cell t1 (by simp)
                      have f2 := hgd.cell t2 (by simp)
                      have f3 := hgd.cell t3 (by simp)
                      have f4 := hgd.cell t4 (by simp)
                      go_region_held3 (fun w' => w'.cell? ⟨XB, 2, none⟩ = some (.slice (some ⟨b, o, none⟩) V.length wc) ∧ w'.cell? ⟨b, o + k * 4, none⟩ = some (.slice u1 l1 u2) ∧ w'.cell? ⟨b, o + k * 4 + 1, none⟩ = some (.slice u3 l2 u4) ∧ w'.cell? ⟨b, o + k * 4 + 2, none⟩ = some (.bool wk) ∧ w'.cell? ⟨b, o + k * 4 + 3, none⟩ = some (.slice u5 l3 u6) ∧ w'.cell? ⟨b, o + m * 4, none⟩ = some (.slice y1 n1 y2) ∧ w'.cell? ⟨b, o + m * 4 + 1, none⟩ = some (.slice y3 n2 y4) ∧ w'.cell? ⟨b, o + m * 4 + 2, none⟩ = some (.bool wd) ∧ w'.cell? ⟨b, o + m * 4 + 3, none⟩ = some (.slice y5 n3 y6))
                        (first | exact ⟨e0, e1, e2, e3, e4, f1, f2, f3, f4⟩ | exact ⟨hg4.cell e0 (by simp), hg4.cell e1 (by simp), hg4.cell e2 (by simp), hg4.cell e3 (by simp), hg4.cell e4 (by simp), hg4.cell f1 (by simp), hg4.cell f2 (by simp), hg4.cell f3 (by simp), hg4.cell f4 (by simp)⟩)
                        (first
                          | (go_at_call 37; refine (SRk.out _ (grown_trans hg3 hgd)).mono ?_; rintro e w4 ⟨rfl, hg4⟩))
                      have hgw4 := grown_trans hg3 (grown_trans hgd hg4)
                      clear e0 e1 e2 e3 e4 f1 f2 f3 f4 z1 z2 z3 z4 t1 t2 t3 t4 c0 c1 c2 SRk
                      cases BS with
                      | true =>
                        have HD3 : Hid ((3 : Int) = D1) := by show _ = _; rw [HD1.out, if_pos HRE.out, if_pos (HA2.out rfl)]
                        clear HA1 HA2
                        go_wp2_with fail
                        go_roundw
                        case rel =>
                          first
                            | exact ⟨3, rfl, k + 1, by go_num, by omega, .inr ⟨by omega, HD3.out⟩, hgw4⟩
                            | ((repeat apply Exists.intro); refine ⟨⟨3, rfl, k + 1, ?_, by omega, .inr ⟨by omega, HD3.out⟩, hgw4⟩, rfl⟩; go_num)
                        case measure => simp [intOf]; omega
                      | false =>
                        have HN : Hid ((V.take (k + 1)).any (fun q => plSame q P) = false) := by show _ = _; rw [HA1.out, HAN.out]; rfl
                        clear HA1 HA2
                        go_wp2_with fail
                        go_roundw
                        case rel =>
                          first
                            | exact ⟨0, rfl, k + 1, by go_num, by omega, .inl ⟨rfl, HRE.out, HN.out⟩, hgw4⟩
                            | ((repeat apply Exists.intro); refine ⟨⟨0, rfl, k + 1, ?_, by omega, .inl ⟨rfl, HRE.out, HN.out⟩, hgw4⟩, rfl⟩; go_num)
                        case measure => simp [intOf]; omega
                    · obtain rfl : k = m := by omega
                      have j2 : ¬ (k : Int) < (k : Int) := by omega
                      have HZN : Hid (Z = wrsE (V.take (k + 1)) (V.drop (k + 1))) := by
                        show _ = _
                        have hd : D1 = 0 := by rw [HD1.out, if_pos HRE.out, HAN.out]; simp
                        rw [HZM.out, if_pos hd]
                      clear c0 c1 c2
                      go_wp2_with fail
                      go_roundw
                      case rel =>
                        first
                          | exact ⟨k + 1, by go_num, by omega, HZN.out, hg3⟩
                          | ((repeat apply Exists.intro); refine ⟨⟨k + 1, ?_, by omega, HZN.out, hg3⟩, rfl⟩; go_num)
                      case measure => simp [intOf]; omega
                  · have HZN : Hid (Z = e) := by
                      show _ = _
                      have hd : ¬ D1 = 0 := by rw [← heD]; exact he0
                      rw [HZM.out, if_neg hd, heD]
                    have he1 : (e == 0) = false := by simpa using he0
                    have he2 : (e != 0) = true := by simpa using he0
                    clear c0 c1 c2 heD he0
                    by_cases hkm : k < m
                    · have j2 : (k : Int) < (m : Int) := by omega
                      go_wp2
                      go_ret
                      exact ⟨ret_intX HZN.out, grown_trans hg1 hg3⟩
                    · obtain rfl : k = m := by omega
                      have j2 : ¬ (k : Int) < (k : Int) := by omega
                      go_wp2
                      go_ret
                      exact ⟨ret_intX HZN.out, grown_trans hg1 hg3⟩
              · obtain rfl : m = V.length := by omega
                have i1 : ¬ (V.length : Int) < (V.length : Int) := by omega
                have HZE : Hid (Z = 0) := by show _ = _; rw [hz, List.drop_length]; rfl
                clear hz
                go_wp2
                go_ret
                exact ⟨ret_intX HZE.out, grown_trans hg1 hg⟩
  · have HZ1 : Hid (Z = 2) := by show _ = _; rw [HZ.out, if_neg h1]
    rw [decide_eq_false h1] at IN
    clear h1 HZ
    go_enter Try.func11, Try.ntmps11
    go_upto_region 1 with fail
    rw [← HW1.out]
    go_wp2_with fail
    refine IN.out.mono ?_
    rintro e w1 ⟨rfl, rfl⟩
    go_wp2
    go_ret
    exact ⟨ret_intX HZ1.out, hg1⟩
end Go.Proofs.Ytpmfbfflacbmjaa
