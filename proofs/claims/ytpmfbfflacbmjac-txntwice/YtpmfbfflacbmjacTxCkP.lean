/-
  txn.Check, as it landed, keeps P8.2: checkRead, checkWrite, checkReads, checkWrites.
-/
import Derived.Test.YtpmfbfflacbmjacTxFnd
import Derived.Test.YtpmfbfflacbmjacPart2
import Derived.Test.YtpmfbfflacbmjacPart1
import Derived.Test.YtpmfbfflacbmjacFApplyP
import Derived.Test.YtpmfbfflacbmjacPart8
import Derived.Test.YtpmfbfflacbmjacCheckP
import Derived.Deep.RegionHeld3
namespace Go.Proofs.Ytpmfbfflacbmjac
open Go.RowKit
set_option maxRecDepth 100000 in
set_option maxHeartbeats 2000000 in
theorem checkRead_any (w : World) (v : Value) (r : Rd) (hv : ReadIs w v r) :
    Calls Try.prog 33 #[v] w fun e w' => e = .returned (.int .i64 (readE r)) ∧ w.grownBy w' none := by
  obtain ⟨na, nc, ka, kc, la, lc, rfl⟩ := hv.agg
  obtain ⟨W1, HW1, hgW, B1⟩ := alloc_namedX w (.cells #[.slice na r.name.length nc, .slice ka r.key.length kc, .bool r.wide, .slice la r.last.length lc] 40)
  obtain ⟨⟨a0, a1, a2, a3⟩, _⟩ := quad_room (grown_refl W1 none) B1.out
  have HE : Hid (readE r = if nameFaultF r.name.length = 0 then (if keyFaultF r.key.length = 0 then (if r.wide = true then keyFaultF r.last.length else (if 0 < r.last.length then 4 else 0)) else keyFaultF r.key.length) else nameFaultF r.name.length) := rfl
  generalize readE r = WE at *
  have NF : Hid (∀ w', Calls Try.prog 55 #[.slice na r.name.length nc] w' fun e w'' => e = .returned (.int .i64 (nameFaultF r.name.length)) ∧ w'.grownBy w'' none) := fun w' => fname_ok w' na _ nc
  have KF : Hid (∀ w', Calls Try.prog 59 #[.slice ka r.key.length kc] w' fun e w'' => e = .returned (.int .i64 (keyFaultF r.key.length)) ∧ w'.grownBy w'' none) := fun w' => check_ok w' ka _ kc
  have LF : Hid (∀ w', Calls Try.prog 59 #[.slice la r.last.length lc] w' fun e w'' => e = .returned (.int .i64 (keyFaultF r.last.length)) ∧ w'.grownBy w'' none) := fun w' => check_ok w' la _ lc
  generalize nameFaultF r.name.length = NE at *
  generalize keyFaultF r.key.length = KE at *
  generalize keyFaultF r.last.length = LE at *
  generalize r.name.length = n1 at *
  generalize r.key.length = n2 at *
  generalize r.last.length = n3 at *
  generalize r.wide = wd at *
  clear hv
  by_cases h1 : NE = 0
  · subst h1
    by_cases h2 : KE = 0
    · subst h2
      cases wd with
      | true =>
        have HW : Hid (WE = LE) := by show _ = _; rw [HE.out, if_pos rfl, if_pos rfl, if_pos rfl]
        clear HE
        go_enter Try.func33, Try.ntmps33
        go_wp2_with fail
        rw [← HW1.out]
        refine (NF.out _).mono ?_
        rintro e w1 ⟨rfl, hg1⟩
        have b1 := hg1.cell a1 (by simp)
        go_wp2_with fail
        refine (KF.out _).mono ?_
        rintro e w2 ⟨rfl, hg2⟩
        have hg12 := grown_trans hg1 hg2
        have d2 := hg12.cell a2 (by simp)
        have d3 := hg12.cell a3 (by simp)
        go_wp2_with fail
        refine (LF.out _).mono ?_
        rintro e w3 ⟨rfl, hg3⟩
        go_wp2
        go_ret
        exact ⟨ret_intX HW.out, grown_trans hgW (grown_trans hg12 hg3)⟩
      | false =>
        by_cases h3 : 0 < n3
        · have HW : Hid (WE = 4) := by show _ = _; rw [HE.out, if_pos rfl, if_pos rfl, if_neg (by decide), if_pos h3]
          have i3 : (n3 : Int) > 0 := by omega
          clear HE
          go_enter Try.func33, Try.ntmps33
          go_wp2_with fail
          rw [← HW1.out]
          refine (NF.out _).mono ?_
          rintro e w1 ⟨rfl, hg1⟩
          have b1 := hg1.cell a1 (by simp)
          go_wp2_with fail
          refine (KF.out _).mono ?_
          rintro e w2 ⟨rfl, hg2⟩
          have hg12 := grown_trans hg1 hg2
          have d2 := hg12.cell a2 (by simp)
          have d3 := hg12.cell a3 (by simp)
          go_wp2
          go_ret
          exact ⟨ret_intX HW.out, grown_trans hgW hg12⟩
        · have HW : Hid (WE = 0) := by show _ = _; rw [HE.out, if_pos rfl, if_pos rfl, if_neg (by decide), if_neg h3]
          have i3 : ¬ (n3 : Int) > 0 := by omega
          clear HE
          go_enter Try.func33, Try.ntmps33
          go_wp2_with fail
          rw [← HW1.out]
          refine (NF.out _).mono ?_
          rintro e w1 ⟨rfl, hg1⟩
          have b1 := hg1.cell a1 (by simp)
          go_wp2_with fail
          refine (KF.out _).mono ?_
          rintro e w2 ⟨rfl, hg2⟩
          have hg12 := grown_trans hg1 hg2
          have d2 := hg12.cell a2 (by simp)
          have d3 := hg12.cell a3 (by simp)
          go_wp2
          go_ret
          exact ⟨ret_intX HW.out, grown_trans hgW hg12⟩
    · have HW : Hid (WE = KE) := by show _ = _; rw [HE.out, if_pos rfl, if_neg h2]
      have h2' : (KE != 0) = true := by simpa using h2
      clear HE h2
      go_enter Try.func33, Try.ntmps33
      go_wp2_with fail
      rw [← HW1.out]
      refine (NF.out _).mono ?_
      rintro e w1 ⟨rfl, hg1⟩
      have b1 := hg1.cell a1 (by simp)
      go_wp2_with fail
      refine (KF.out _).mono ?_
      rintro e w2 ⟨rfl, hg2⟩
      go_wp2
      go_ret
      exact ⟨ret_intX HW.out, grown_trans hgW (grown_trans hg1 hg2)⟩
  · have HW : Hid (WE = NE) := by show _ = _; rw [HE.out, if_neg h1]
    have h1' : (NE != 0) = true := by simpa using h1
    clear HE h1
    go_enter Try.func33, Try.ntmps33
    go_wp2_with fail
    rw [← HW1.out]
    refine (NF.out _).mono ?_
    rintro e w1 ⟨rfl, hg1⟩
    go_wp2
    go_ret
    exact ⟨ret_intX HW.out, grown_trans hgW hg1⟩
set_option maxRecDepth 100000 in
set_option maxHeartbeats 2000000 in
theorem checkWrite_any (w : World) (v : Value) (p : Plc) (hv : WriteIs w v p) (hp : PlcFits p) :
    Calls Try.prog 48 #[v] w fun e w' => e = .returned (.int .i64 (writeE p)) ∧ w.grownBy w' none := by
  obtain ⟨ma, mc, ja, jc, ha, hc, rfl⟩ := hv.aggW
  obtain ⟨x1, x2, x3, ex, v1, v2, v3⟩ := hv
  simp only [Value.agg.injEq, Array.mk.injEq, List.cons.injEq, and_true] at ex
  obtain ⟨rfl, rfl, _, rfl⟩ := ex
  obtain ⟨W1, HW1, hg1, B1⟩ := alloc_namedX w (.cells #[.slice ma p.name.length mc, .slice ja p.key.length jc, .bool p.gone, .slice ha p.value.length hc] 53)
  obtain ⟨W2, HW2, hg2, B2⟩ := alloc_namedX W1 (.cells #[.slice ma p.name.length mc, .slice ja p.key.length jc, .bool p.gone, .slice ha p.value.length hc] 53)
  obtain ⟨⟨a0, a1, a2, a3⟩, _⟩ := quad_room (grown_refl W1 none) B1.out
  have AP : Hid (Calls Try.prog 21 #[.slice none 0 0, .slice (some ⟨W1.heap.size, 0, none⟩) 1 1] W2 fun e w'' => ∃ x, e = .returned (.tuple #[x, .int .i64 (writeE p)]) ∧ W2.grownBy w'' none) := by
    have hw : WritesIs W2 (.slice (some ⟨W1.heap.size, 0, none⟩) 1 1) [p] := by rw [HW2.out]; exact writes_one W1 _ _ _ p (v1.grown hg1) (v2.grown hg1) (v3.grown hg1) _
    have h0 := fapply_ok W2 (.slice none 0 0) _ [] [p] (tensIs_nil W2) hw ⟨by simp, by simp⟩ ⟨by simp, fun i hi => by
      match i, hi with
      | 0, _ => exact hp⟩
    rw [applied_one0] at h0
    refine h0.mono ?_
    rintro e w'' ⟨x, rfl, _, hg⟩
    exact ⟨x, rfl, hg⟩
  generalize writeE p = Z at *
  clear v1 v2 v3 hp B1 B2
  generalize p.name.length = n1 at *
  generalize p.key.length = n2 at *
  generalize p.value.length = n3 at *
  generalize p.gone = g1 at *
  go_enter Try.func48, Try.ntmps48
  go_upto_region 1 with fail
  rw [← HW1.out]
  go_wp2_with fail
  rw [← HW2.out]
  refine AP.out.mono ?_
  rintro e w3 ⟨x, rfl, hg3⟩
  go_wp2
  go_ret
  exact ⟨rfl, grown_trans hg1 (grown_trans hg2 hg3)⟩
/-- l[:m] of reads and of writes. -/
theorem ReadsIs.takes {w : World} {a : Option Addr} {n cap : Nat} {l : List Rd} (h : ReadsIs w (.slice a n cap) l) (m : Nat) (hm : m < l.length) : ReadsIs w (.slice a m cap) (l.take m) := by
  obtain ⟨a', cap', e, hc, h⟩ := h
  simp only [Value.slice.injEq] at e
  obtain ⟨rfl, rfl, rfl⟩ := e
  have hl : (l.take m).length = m := by simp; omega
  refine ⟨a, cap, by rw [hl], by rw [hl]; omega, ?_⟩
  rcases h with ⟨rfl, _⟩ | ⟨b, o, rfl, h⟩
  · simp at hm
  · refine .inr ⟨b, o, rfl, fun i hi => ?_⟩
    rw [hl] at hi
    have := h i (by omega)
    rwa [show l.getD i noRd = (l.take m).getD i noRd by simp [List.getD, hi]] at this
theorem WritesIs.takes {w : World} {a : Option Addr} {n cap : Nat} {l : List Plc} (h : WritesIs w (.slice a n cap) l) (m : Nat) (hm : m < l.length) : WritesIs w (.slice a m cap) (l.take m) := by
  obtain ⟨a', cap', e, hc, h⟩ := h
  simp only [Value.slice.injEq] at e
  obtain ⟨rfl, rfl, rfl⟩ := e
  have hl : (l.take m).length = m := by simp; omega
  refine ⟨a, cap, by rw [hl], by rw [hl]; omega, ?_⟩
  rcases h with ⟨rfl, _⟩ | ⟨b, o, rfl, h⟩
  · simp at hm
  · refine .inr ⟨b, o, rfl, fun i hi => ?_⟩
    rw [hl] at hi
    have := h i (by omega)
    rwa [show l.getD i noPlc = (l.take m).getD i noPlc by simp [List.getD, hi]] at this
theorem ReadsIs.capX {w : World} {a : Option Addr} {n cap : Nat} {l : List Rd} (h : ReadsIs w (.slice a n cap) l) : l.length ≤ cap := by
  obtain ⟨a', cap', e, hc, _⟩ := h
  simp only [Value.slice.injEq] at e
  omega
theorem WritesIs.capX {w : World} {a : Option Addr} {n cap : Nat} {l : List Plc} (h : WritesIs w (.slice a n cap) l) : l.length ≤ cap := by
  obtain ⟨a', cap', e, hc, _⟩ := h
  simp only [Value.slice.injEq] at e
  omega
theorem sizeRdX (w : World) : (sizeOf (Try.prog.elem 25)).run Try.prog w = .ok 4 w := by kernel_rfl
theorem sizeWrX (w : World) : (sizeOf (Try.prog.elem 26)).run Try.prog w = .ok 4 w := by kernel_rfl
theorem rdslice_h (b o n m cap : Nat) (hm : m < n) (hc : n ≤ cap) (W : World) : (Instr.slice 25 (.slice (some ⟨b, o, none⟩) n cap) none (some (.int .i64 (m : Int))) none).run Try.prog W = .ok (.slice (some ⟨b, o, none⟩) m cap) W := by
  rw [run_slice_h _ _ _ _ _ (by kernel_rfl) _ _ (by omega) (by omega), sizeRdX]
  simp only [Result.andThen, Go.sliced, Int.toNat_natCast, Nat.sub_zero]
  rw [if_neg (by omega)]
  simp [addr_add]
theorem wrslice_h (b o n m cap : Nat) (hm : m < n) (hc : n ≤ cap) (W : World) : (Instr.slice 26 (.slice (some ⟨b, o, none⟩) n cap) none (some (.int .i64 (m : Int))) none).run Try.prog W = .ok (.slice (some ⟨b, o, none⟩) m cap) W := by
  rw [run_slice_h _ _ _ _ _ (by kernel_rfl) _ _ (by omega) (by omega), sizeWrX]
  simp only [Result.andThen, Go.sliced, Int.toNat_natCast, Nat.sub_zero]
  rw [if_neg (by omega)]
  simp [addr_add]
set_option maxRecDepth 100000 in
set_option maxHeartbeats 2000000 in
theorem checkReads_any (w : World) (v : Value) (l : List Rd) (hv : ReadsIs w v l) (hl : l.length ≤ 140737488355328) :
    Calls Try.prog 40 #[v] w fun e w' => e = .returned (.int .i64 (rdsE [] l)) ∧ w.grownBy w' none := by
  obtain ⟨a, cap, rfl⟩ := hv.shape
  have HV : Hid (ReadsIs w (.slice a l.length cap) l) := hv
  have hcap := hv.capX
  obtain ⟨Z, hZ⟩ : ∃ Z, Z = rdsE [] l := ⟨_, rfl⟩
  have HZ : Hid (Z = rdsE (l.take 0) (l.drop 0)) := hZ
  rw [← hZ]
  clear hv hZ
  go_enter Try.func40, Try.ntmps40
  go_wp2_with fail
  go_loopw [3, 4, 5, 8] (fun _ _ _ i wr => ∃ m : Nat, m ≤ l.length ∧ i = .int .i64 (m : Int) ∧ Z = rdsE (l.take m) (l.drop m) ∧ w.grownBy wr none) (fun _ _ _ i _ => l.length - (intOf i).toNat)
  case atStart => exact ⟨0, by omega, rfl, HZ.out, grown_refl _ _⟩
  case round =>
    obtain ⟨m, hm, rfl, hz, hg⟩ := hrel
    by_cases hlt : m < l.length
    · have i1 : (m : Int) < (l.length : Int) := by omega
      have hstep := rds_step l m hlt
      rw [← hz] at hstep
      obtain ⟨b, o, rfl, u1, u2, u3, u4, u5, u6, ⟨c1, c2, c3, c4⟩, hr⟩ := reads_cells HV.out m hlt
      have z1 := hg.cell c1 (by simp)
      have z2 := hg.cell c2 (by simp)
      have z3 := hg.cell c3 (by simp)
      have z4 := hg.cell c4 (by simp)
      obtain ⟨W1, HW1, hg1, B1⟩ := alloc_namedX wr (.cells #[.slice u1 (l.getD m noRd).name.length u2, .slice u3 (l.getD m noRd).key.length u4, .bool (l.getD m noRd).wide, .slice u5 (l.getD m noRd).last.length u6] 40)
      have hgw1 := grown_trans hg hg1
      obtain ⟨⟨a0, a1, a2, a3⟩, _⟩ := quad_room (grown_refl W1 none) B1.out
      have CK : Hid (Calls Try.prog 33 #[.agg #[.slice u1 (l.getD m noRd).name.length u2, .slice u3 (l.getD m noRd).key.length u4, .bool (l.getD m noRd).wide, .slice u5 (l.getD m noRd).last.length u6]] W1 fun e w' => e = .returned (.int .i64 (readE (l.getD m noRd))) ∧ W1.grownBy w' none) := checkRead_any W1 _ _ (hr.grown hgw1)
      have FR : Hid (∀ w', W1.grownBy w' none → Calls Try.prog 35 #[.slice (some ⟨b, o, none⟩) m cap, .agg #[.slice u1 (l.getD m noRd).name.length u2, .slice u3 (l.getD m noRd).key.length u4, .bool (l.getD m noRd).wide, .slice u5 (l.getD m noRd).last.length u6]] w' fun e w'' => e = .returned (.int .i64 (firstP (fun q => rdSame q (l.getD m noRd)) (l.take m))) ∧ w'.grownBy w'' none) := fun w' h => findRead_any w' _ _ _ _ ((HV.out.takes m hlt).grown (grown_trans hgw1 h)) (by simp; omega) (hr.grown (grown_trans hgw1 h))
      have hneg := firstP_neg (fun q => rdSame q (l.getD m noRd)) (l.take m)
      have HB1 : Hid (readE (l.getD m noRd) ≠ 0 → Z = readE (l.getD m noRd)) := fun h => by
        have e1 : rdE1 (l.take m) (l.getD m noRd) = readE (l.getD m noRd) := by rw [rdE1, if_neg h]
        rw [hstep, e1, if_neg h]
      have HB2 : Hid (readE (l.getD m noRd) = 0 → (l.take m).any (fun q => rdSame q (l.getD m noRd)) = true → Z = 3) := fun h h2 => by
        have e1 : rdE1 (l.take m) (l.getD m noRd) = 3 := by rw [rdE1, if_pos h, if_pos h2]
        rw [hstep, e1, if_neg (by decide)]
      have HB3 : Hid (readE (l.getD m noRd) = 0 → (l.take m).any (fun q => rdSame q (l.getD m noRd)) = false → Z = rdsE (l.take (m + 1)) (l.drop (m + 1))) := fun h h2 => by
        have e1 : rdE1 (l.take m) (l.getD m noRd) = 0 := by rw [rdE1, if_pos h, h2, if_neg (by decide)]
        rw [hstep, e1, if_pos rfl]
      have SL := rdslice_h b o l.length m cap hlt hcap
      clear hstep hz hr c1 c2 c3 c4 B1
      generalize firstP (fun q => rdSame q (l.getD m noRd)) (l.take m) = F at *
      generalize (l.take m).any (fun q => rdSame q (l.getD m noRd)) = AN at *
      generalize readE (l.getD m noRd) = RE at *
      generalize (l.getD m noRd).name.length = n1 at *
      generalize (l.getD m noRd).key.length = n2 at *
      generalize (l.getD m noRd).last.length = n3 at *
      generalize (l.getD m noRd).wide = g1 at *
      go_upto_region 4 with fail
      rw [← HW1.out]
      obtain ⟨IB, hIB⟩ : ∃ IB, IB = wr.heap.size := ⟨_, rfl⟩
      rw [← hIB] at a0 a1 a2 a3 ⊢
      clear hIB z1 z2 z3 z4
      go_wp2_with fail
      refine CK.out.mono ?_
      rintro e w2 ⟨rfl, hg2⟩
      have hgw2 := grown_trans hgw1 hg2
      by_cases h0 : RE = 0
      · have HC2 : Hid (AN = true → Z = 3) := HB2.out h0
        have HC3 := HB3.out h0
        have HC4 : Hid (AN = false → _) := HC3
        clear HC3 HB1 HB2 HB3
        subst h0
        have d0 := hg2.cell a0 (by simp)
        have d1 := hg2.cell a1 (by simp)
        have d2 := hg2.cell a2 (by simp)
        have d3 := hg2.cell a3 (by simp)
        go_wp2_with fail
        have hgd : w2.grownBy w2.drew none := grown_drew (grown_refl _ _)
        have e0 := hgd.cell d0 (by simp)
        have e1 := hgd.cell d1 (by simp)
        have e2 := hgd.cell d2 (by simp)
        have e3 := hgd.cell d3 (by simp)
        go_region_held3 (fun w' => w'.cell? ⟨IB, 0, none⟩ = some (.slice u1 n1 u2) ∧ w'.cell? ⟨IB, 1, none⟩ = some (.slice u3 n2 u4) ∧ w'.cell? ⟨IB, 2, none⟩ = some (.bool g1) ∧ w'.cell? ⟨IB, 3, none⟩ = some (.slice u5 n3 u6))
          (first | exact ⟨e0, e1, e2, e3⟩ | exact ⟨hg3.cell e0 (by simp), hg3.cell e1 (by simp), hg3.cell e2 (by simp), hg3.cell e3 (by simp)⟩)
          (first
            | (go_at_call 35; refine (FR.out _ (grown_trans hg2 hgd)).mono ?_; rintro e w3 ⟨rfl, hg3⟩))
        have hgw3 := grown_trans hgw2 (grown_trans hgd hg3)
        clear e0 e1 e2 e3 d0 d1 d2 d3 a0 a1 a2 a3 FR CK SL
        cases AN with
        | true =>
          have HE2 : Hid (Z = 3) := HC2.out rfl
          have hF : (F != -1) = true := by rw [bne, hneg]; rfl
          clear HC2 HC4 hneg
          go_wp2
          go_ret
          exact ⟨ret_intX HE2.out, hgw3⟩
        | false =>
          have HN : Hid (Z = rdsE (l.take (m + 1)) (l.drop (m + 1))) := HC4.out rfl
          have hF : (F != -1) = false := by rw [bne, hneg]; rfl
          clear HC2 HC4 hneg
          go_wp2_with fail
          go_roundw
          case rel =>
            first
              | exact ⟨m + 1, by omega, by go_num, HN.out, hgw3⟩
              | ((repeat apply Exists.intro); refine ⟨⟨m + 1, by omega, ?_, HN.out, hgw3⟩, rfl⟩; go_num)
          case measure => simp [intOf]; omega
      · have HE2 : Hid (Z = RE) := HB1.out h0
        have h0' : (RE != 0) = true := by simpa using h0
        clear h0 HB1 HB2 HB3 hneg SL
        go_wp2
        go_ret
        exact ⟨ret_intX HE2.out, hgw2⟩
    · obtain rfl : m = l.length := by omega
      have i1 : ¬ (l.length : Int) < (l.length : Int) := by omega
      rw [List.drop_length] at hz
      have HE2 : Hid (Z = 0) := hz
      clear hz
      go_wp2
      go_ret
      exact ⟨ret_intX HE2.out, hg⟩
set_option maxRecDepth 100000 in
set_option maxHeartbeats 2000000 in
theorem checkWrites_any (w : World) (v : Value) (l : List Plc) (hv : WritesIs w v l) (hl : l.length ≤ 140737488355328) (hf : ∀ i, i < l.length → PlcFits (l.getD i noPlc)) :
    Calls Try.prog 41 #[v] w fun e w' => e = .returned (.int .i64 (wrsE [] l)) ∧ w.grownBy w' none := by
  obtain ⟨a, cap, rfl⟩ := hv.shape
  have HV : Hid (WritesIs w (.slice a l.length cap) l) := hv
  have hcap := hv.capX
  have HF : Hid (∀ i, i < l.length → PlcFits (l.getD i noPlc)) := hf
  obtain ⟨Z, hZ⟩ : ∃ Z, Z = wrsE [] l := ⟨_, rfl⟩
  have HZ : Hid (Z = wrsE (l.take 0) (l.drop 0)) := hZ
  rw [← hZ]
  clear hv hZ hf
  go_enter Try.func41, Try.ntmps41
  go_wp2_with fail
  go_loopw [3, 4, 5, 8] (fun _ _ _ i wr => ∃ m : Nat, m ≤ l.length ∧ i = .int .i64 (m : Int) ∧ Z = wrsE (l.take m) (l.drop m) ∧ w.grownBy wr none) (fun _ _ _ i _ => l.length - (intOf i).toNat)
  case atStart => exact ⟨0, by omega, rfl, HZ.out, grown_refl _ _⟩
  case round =>
    obtain ⟨m, hm, rfl, hz, hg⟩ := hrel
    by_cases hlt : m < l.length
    · have i1 : (m : Int) < (l.length : Int) := by omega
      have hstep := wrs_step l m hlt
      rw [← hz] at hstep
      obtain ⟨b, o, rfl, u1, u2, u3, u4, u5, u6, ⟨c1, c2, c3, c4⟩, hr⟩ := writes_cells HV.out m hlt
      have z1 := hg.cell c1 (by simp)
      have z2 := hg.cell c2 (by simp)
      have z3 := hg.cell c3 (by simp)
      have z4 := hg.cell c4 (by simp)
      obtain ⟨W1, HW1, hg1, B1⟩ := alloc_namedX wr (.cells #[.slice u1 (l.getD m noPlc).name.length u2, .slice u3 (l.getD m noPlc).key.length u4, .bool (l.getD m noPlc).gone, .slice u5 (l.getD m noPlc).value.length u6] 53)
      have hgw1 := grown_trans hg hg1
      obtain ⟨⟨a0, a1, a2, a3⟩, _⟩ := quad_room (grown_refl W1 none) B1.out
      have CK : Hid (Calls Try.prog 48 #[.agg #[.slice u1 (l.getD m noPlc).name.length u2, .slice u3 (l.getD m noPlc).key.length u4, .bool (l.getD m noPlc).gone, .slice u5 (l.getD m noPlc).value.length u6]] W1 fun e w' => e = .returned (.int .i64 (writeE (l.getD m noPlc))) ∧ W1.grownBy w' none) := checkWrite_any W1 _ _ (hr.grown hgw1) (HF.out m hlt)
      have FR : Hid (∀ w', W1.grownBy w' none → Calls Try.prog 43 #[.slice (some ⟨b, o, none⟩) m cap, .slice u1 (l.getD m noPlc).name.length u2, .slice u3 (l.getD m noPlc).key.length u4] w' fun e w'' => e = .returned (.int .i64 (firstP (fun q => plSame q (l.getD m noPlc)) (l.take m))) ∧ w'.grownBy w'' none) := fun w' h => by
        have hr' := hr.grown (grown_trans hgw1 h)
        obtain ⟨x1, x2, x3, ex, v1, v2, v3⟩ := hr'
        simp only [Value.agg.injEq, Array.mk.injEq, List.cons.injEq, and_true] at ex
        obtain ⟨rfl, rfl, _, rfl⟩ := ex
        exact findWrite_any w' _ _ _ _ _ _ ((HV.out.takes m hlt).grown (grown_trans hgw1 h)) (by simp; omega) v1 v2
      have hneg := firstP_neg (fun q => plSame q (l.getD m noPlc)) (l.take m)
      have HB1 : Hid (writeE (l.getD m noPlc) ≠ 0 → Z = writeE (l.getD m noPlc)) := fun h => by
        have e1 : wrE1 (l.take m) (l.getD m noPlc) = writeE (l.getD m noPlc) := by rw [wrE1, if_neg h]
        rw [hstep, e1, if_neg h]
      have HB2 : Hid (writeE (l.getD m noPlc) = 0 → (l.take m).any (fun q => plSame q (l.getD m noPlc)) = true → Z = 3) := fun h h2 => by
        have e1 : wrE1 (l.take m) (l.getD m noPlc) = 3 := by rw [wrE1, if_pos h, if_pos h2]
        rw [hstep, e1, if_neg (by decide)]
      have HB3 : Hid (writeE (l.getD m noPlc) = 0 → (l.take m).any (fun q => plSame q (l.getD m noPlc)) = false → Z = wrsE (l.take (m + 1)) (l.drop (m + 1))) := fun h h2 => by
        have e1 : wrE1 (l.take m) (l.getD m noPlc) = 0 := by rw [wrE1, if_pos h, h2, if_neg (by decide)]
        rw [hstep, e1, if_pos rfl]
      have SL := wrslice_h b o l.length m cap hlt hcap
      clear hstep hz hr c1 c2 c3 c4 B1
      generalize firstP (fun q => plSame q (l.getD m noPlc)) (l.take m) = F at *
      generalize (l.take m).any (fun q => plSame q (l.getD m noPlc)) = AN at *
      generalize writeE (l.getD m noPlc) = RE at *
      generalize (l.getD m noPlc).name.length = n1 at *
      generalize (l.getD m noPlc).key.length = n2 at *
      generalize (l.getD m noPlc).value.length = n3 at *
      generalize (l.getD m noPlc).gone = g1 at *
      go_upto_region 4 with fail
      rw [← HW1.out]
      obtain ⟨IB, hIB⟩ : ∃ IB, IB = wr.heap.size := ⟨_, rfl⟩
      rw [← hIB] at a0 a1 a2 a3 ⊢
      clear hIB z1 z2 z3 z4
      go_wp2_with fail
      refine CK.out.mono ?_
      rintro e w2 ⟨rfl, hg2⟩
      have hgw2 := grown_trans hgw1 hg2
      by_cases h0 : RE = 0
      · have HC2 : Hid (AN = true → Z = 3) := HB2.out h0
        have HC3 := HB3.out h0
        have HC4 : Hid (AN = false → _) := HC3
        clear HC3 HB1 HB2 HB3
        subst h0
        have d0 := hg2.cell a0 (by simp)
        have d1 := hg2.cell a1 (by simp)
        have d2 := hg2.cell a2 (by simp)
        have d3 := hg2.cell a3 (by simp)
        go_wp2_with fail
        have hgd : w2.grownBy w2.drew none := grown_drew (grown_refl _ _)
        have e0 := hgd.cell d0 (by simp)
        have e1 := hgd.cell d1 (by simp)
        have e2 := hgd.cell d2 (by simp)
        have e3 := hgd.cell d3 (by simp)
        go_region_held3 (fun w' => w'.cell? ⟨IB, 0, none⟩ = some (.slice u1 n1 u2) ∧ w'.cell? ⟨IB, 1, none⟩ = some (.slice u3 n2 u4) ∧ w'.cell? ⟨IB, 2, none⟩ = some (.bool g1) ∧ w'.cell? ⟨IB, 3, none⟩ = some (.slice u5 n3 u6))
          (first | exact ⟨e0, e1, e2, e3⟩ | exact ⟨hg3.cell e0 (by simp), hg3.cell e1 (by simp), hg3.cell e2 (by simp), hg3.cell e3 (by simp)⟩)
          (first
            | (go_at_call 43; refine (FR.out _ (grown_trans hg2 hgd)).mono ?_; rintro e w3 ⟨rfl, hg3⟩))
        have hgw3 := grown_trans hgw2 (grown_trans hgd hg3)
        clear e0 e1 e2 e3 d0 d1 d2 d3 a0 a1 a2 a3 FR CK SL
        cases AN with
        | true =>
          have HE2 : Hid (Z = 3) := HC2.out rfl
          have hF : (F != -1) = true := by rw [bne, hneg]; rfl
          clear HC2 HC4 hneg
          go_wp2
          go_ret
          exact ⟨ret_intX HE2.out, hgw3⟩
        | false =>
          have HN : Hid (Z = wrsE (l.take (m + 1)) (l.drop (m + 1))) := HC4.out rfl
          have hF : (F != -1) = false := by rw [bne, hneg]; rfl
          clear HC2 HC4 hneg
          go_wp2_with fail
          go_roundw
          case rel =>
            first
              | exact ⟨m + 1, by omega, by go_num, HN.out, hgw3⟩
              | ((repeat apply Exists.intro); refine ⟨⟨m + 1, by omega, ?_, HN.out, hgw3⟩, rfl⟩; go_num)
          case measure => simp [intOf]; omega
      · have HE2 : Hid (Z = RE) := HB1.out h0
        have h0' : (RE != 0) = true := by simpa using h0
        clear h0 HB1 HB2 HB3 hneg SL
        go_wp2
        go_ret
        exact ⟨ret_intX HE2.out, hgw2⟩
    · obtain rfl : m = l.length := by omega
      have i1 : ¬ (l.length : Int) < (l.length : Int) := by omega
      rw [List.drop_length] at hz
      have HE2 : Hid (Z = 0) := hz
      clear hz
      go_wp2
      go_ret
      exact ⟨ret_intX HE2.out, hg⟩
set_option maxRecDepth 100000 in
set_option maxHeartbeats 2000000 in
theorem txcheck_ok : TxCheckOK := by
  intro w v t hv hf
  obtain ⟨ra, rc, wa, wc, rfl⟩ := hv.agg
  obtain ⟨_, hr, hw⟩ := hv.parts
  obtain ⟨W1, HW1, hg1, B1⟩ := alloc_namedX w (.cells #[.int .i64 t.start, .slice ra t.reads.length rc, .slice wa t.writes.length wc] 28)
  obtain ⟨q0, q1, q2⟩ := trip_room (grown_refl W1 none) B1.out
  have hrl := hf.reads.many
  have hwl := hf.writes.many
  have CR : Hid (Calls Try.prog 40 #[.slice ra t.reads.length rc] W1 fun e w' => e = .returned (.int .i64 (rdsE [] t.reads)) ∧ W1.grownBy w' none) := checkReads_any W1 _ _ (hr.grown hg1) (by omega)
  have CW : Hid (∀ w', W1.grownBy w' none → Calls Try.prog 41 #[.slice wa t.writes.length wc] w' fun e w'' => e = .returned (.int .i64 (wrsE [] t.writes)) ∧ w'.grownBy w'' none) := fun w' h => checkWrites_any w' _ _ ((hw.grown hg1).grown h) (by omega) hf.writes.each
  have hs1 := hf.start
  obtain ⟨Z, hZ⟩ : ∃ Z, Z = txE t := ⟨_, rfl⟩
  have HZ : Hid (Z = if 0 ≤ t.start ∧ t.start ≤ 1048576 then (if 20 < t.reads.length ∨ 10 < t.writes.length then 1 else (if rdsE [] t.reads = 0 then wrsE [] t.writes else rdsE [] t.reads)) else 2) := hZ
  rw [← hZ]
  clear hZ hv hr hw hf B1
  generalize rdsE [] t.reads = RE at *
  generalize wrsE [] t.writes = WE at *
  generalize t.reads.length = rl at *
  generalize t.writes.length = wl at *
  generalize t.start = st at *
  by_cases h1 : st < 0
  · have HZ1 : Hid (Z = 2) := by show _ = _; rw [HZ.out, if_neg (by omega)]
    clear HZ
    go_enter Try.func18, Try.ntmps18
    go_upto_region 1 with fail
    rw [← HW1.out]
    go_wp2
    go_ret
    exact ⟨ret_intX HZ1.out, hg1⟩
  · by_cases h2 : st > 1048576
    · have HZ1 : Hid (Z = 2) := by show _ = _; rw [HZ.out, if_neg (by omega)]
      clear HZ
      go_enter Try.func18, Try.ntmps18
      go_upto_region 1 with fail
      rw [← HW1.out]
      go_wp2
      go_ret
      exact ⟨ret_intX HZ1.out, hg1⟩
    · by_cases h3 : 20 < rl
      · have HZ1 : Hid (Z = 1) := by show _ = _; rw [HZ.out, if_pos (by omega), if_pos (.inl h3)]
        have i2 : (rl : Int) > 20 := by omega
        clear HZ
        go_enter Try.func18, Try.ntmps18
        go_upto_region 1 with fail
        rw [← HW1.out]
        go_wp2
        go_ret
        exact ⟨ret_intX HZ1.out, hg1⟩
      · have i2 : ¬ (rl : Int) > 20 := by omega
        by_cases h4 : 10 < wl
        · have HZ1 : Hid (Z = 1) := by show _ = _; rw [HZ.out, if_pos (by omega), if_pos (.inr h4)]
          have i3 : (wl : Int) > 10 := by omega
          clear HZ
          go_enter Try.func18, Try.ntmps18
          go_upto_region 1 with fail
          rw [← HW1.out]
          go_wp2
          go_ret
          exact ⟨ret_intX HZ1.out, hg1⟩
        · have i3 : ¬ (wl : Int) > 10 := by omega
          have HZ2 : Hid (Z = if RE = 0 then WE else RE) := by show _ = _; rw [HZ.out, if_pos (by omega), if_neg (by omega)]
          clear HZ
          by_cases h5 : RE = 0
          · have HZ1 : Hid (Z = WE) := by show _ = _; rw [HZ2.out, if_pos h5]
            subst h5
            clear HZ2
            go_enter Try.func18, Try.ntmps18
            go_upto_region 1 with fail
            rw [← HW1.out]
            go_wp2_with fail
            refine CR.out.mono ?_
            rintro e w2 ⟨rfl, hg2⟩
            have d2 := hg2.cell q2 (by simp)
            go_wp2_with fail
            refine (CW.out _ hg2).mono ?_
            rintro e w3 ⟨rfl, hg3⟩
            go_wp2
            go_ret
            exact ⟨ret_intX HZ1.out, grown_trans hg1 (grown_trans hg2 hg3)⟩
          · have HZ1 : Hid (Z = RE) := by show _ = _; rw [HZ2.out, if_neg h5]
            have h5' : (RE != 0) = true := by simpa using h5
            clear HZ2 h5
            go_enter Try.func18, Try.ntmps18
            go_upto_region 1 with fail
            rw [← HW1.out]
            go_wp2_with fail
            refine CR.out.mono ?_
            rintro e w2 ⟨rfl, hg2⟩
            go_wp2
            go_ret
            exact ⟨ret_intX HZ1.out, grown_trans hg1 hg2⟩
end Go.Proofs.Ytpmfbfflacbmjac
