/-
  The walks of the document's answer to P8.5: forestAndTxn, Looked.
-/
import Derived.Test.YtpmfbfflacbmjaaPart18
import Derived.Test.YtpmfbfflacbmjaaPart6
import Derived.Test.YtpmfbfflacbmjaaRForG
import Derived.Test.YtpmfbfflacbmjaaPart8
namespace Go.Proofs.Ytpmfbfflacbmjaa
open Go.RowKit
theorem ret_lookR {x : Value} {a b : Bool} {c d : Bool} {e f : Int} (h1 : a = b) (h2 : c = d) (h3 : e = f) : Ending.returned (Value.tuple #[.agg #[.bool b, x], .bool d, .int .i64 f]) = Ending.returned (Value.tuple #[.agg #[.bool a, x], .bool c, .int .i64 e]) := by rw [h1, h2, h3]
set_option maxRecDepth 100000 in
set_option maxHeartbeats 2000000 in
theorem forestAndTxn_any (w : World) (v u : Value) (l : FL) (t : Tx) (hv : TensIs w v l) (hu : TxIs w u t) (hf : FitsX t) :
    Calls Try.prog 52 #[v, u] w fun e w' => e = .returned (.int .i64 (ftE l t)) ∧ w.grownBy w' none := by
  obtain ⟨a, cap, rfl⟩ := hv.shape
  obtain ⟨ra, rc, wa, wc, rfl⟩ := hu.agg
  obtain ⟨W1, HW1, hg1, B1⟩ := alloc_namedX w (.cells #[.int .i64 t.start, .slice ra t.reads.length rc, .slice wa t.writes.length wc] 25)
  have FC : Hid (Calls Try.prog 85 #[.slice a l.length cap] W1 fun e w' => e = .returned (.int .i64 (forestE l)) ∧ W1.grownBy w' none) := forestFault_any W1 _ l (hv.grown hg1)
  have TC : Hid (∀ w', W1.grownBy w' none → Calls Try.prog 11 #[.agg #[.int .i64 t.start, .slice ra t.reads.length rc, .slice wa t.writes.length wc]] w' fun e w'' => e = .returned (.int .i64 (txE t)) ∧ w'.grownBy w'' none) := fun w' h => txnFault_any w' _ t ((hu.grown hg1).grown h) hf
  have HE : Hid (ftE l t = if forestE l = 0 then txE t else forestE l) := rfl
  generalize ftE l t = Z at *
  generalize forestE l = FE at *
  generalize txE t = TE at *
  generalize t.reads.length = n1 at *
  generalize t.writes.length = n2 at *
  generalize t.start = st at *
  clear hv hu hf
  by_cases h : FE = 0
  · have HZ : Hid (Z = TE) := by show _ = _; rw [HE.out, if_pos h]
    subst h
    clear HE
    go_enter Try.func52, Try.ntmps52
    go_upto_region 1 with fail
    rw [← HW1.out]
    go_wp2_with fail
    refine FC.out.mono ?_
    rintro e w2 ⟨rfl, hg2⟩
    obtain ⟨c0, c1, c2⟩ := trip_room hg2 B1.out
    go_wp2_with fail
    refine (TC.out _ hg2).mono ?_
    rintro e w3 ⟨rfl, hg3⟩
    go_wp2
    go_ret
    exact ⟨ret_intX HZ.out, grown_trans hg1 (grown_trans hg2 hg3)⟩
  · have HZ : Hid (Z = FE) := by show _ = _; rw [HE.out, if_neg h]
    have h' : (FE == 0) = false := by simpa using h
    clear HE h
    go_enter Try.func52, Try.ntmps52
    go_upto_region 1 with fail
    rw [← HW1.out]
    go_wp2_with fail
    refine FC.out.mono ?_
    rintro e w2 ⟨rfl, hg2⟩
    go_wp2
    go_ret
    exact ⟨ret_intX HZ.out, grown_trans hg1 hg2⟩
set_option maxRecDepth 100000 in
set_option maxHeartbeats 4000000 in
theorem looked_any (w : World) (v u a b : Value) (l : FL) (t : Tx) (n k : List UInt8) (hv : TensIs w v l) (hu : TxIs w u t) (hf : FitsX t) (ha : SliceIs w a n) (hb : SliceIs w b k) :
    Calls Try.prog 22 #[v, u, a, b] w fun e w' => ∃ x, e = .returned (.tuple #[.agg #[.bool (lookB l t n k), x], .bool (lookO l t n k), .int .i64 (lookE l t n k)]) ∧ SliceIs w' x (lookV l t n k) ∧ w.grownBy w' none := by
  obtain ⟨la, lc, rfl⟩ := hv.shape
  obtain ⟨ra, rc, wa, wc, rfl⟩ := hu.agg
  obtain ⟨na, nc, rfl⟩ := ha.shape
  obtain ⟨ka, kc, rfl⟩ := hb.shape
  obtain ⟨_, _, hws⟩ := hu.parts
  obtain ⟨W1, HW1, hg1, B1⟩ := alloc_namedX w (.cells #[.int .i64 t.start, .slice ra t.reads.length rc, .slice wa t.writes.length wc] 25)
  obtain ⟨W2, HW2, hg2, B2⟩ := alloc_namedX W1 (.cells #[.bool false, .slice none 0 0] 45)
  have s1 : W1.heap.size = w.heap.size + 1 := by rw [HW1.out]; simp
  rw [s1] at B2
  have hg02 := grown_trans hg1 hg2
  have HX : Hid (W2 = (w.alloc (.cells #[.int .i64 t.start, .slice ra t.reads.length rc, .slice wa t.writes.length wc] 25)).alloc (.cells #[.bool false, .slice none 0 0] 45)) := by show _ = _; rw [HW2.out, HW1.out]
  have I2 : Hid (W2.heap[w.heap.size]? = some (.cells #[.int .i64 t.start, .slice ra t.reads.length rc, .slice wa t.writes.length wc] 25)) := pair_old hg2 B1.out
  have HWS : Hid (WritesIs W2 (.slice wa t.writes.length wc) t.writes) := hws.grown hg02
  have hwl := hf.writes.many
  have HFW : Hid (∀ i, i < t.writes.length → PlcFits (t.writes.getD i noPlc)) := hf.writes.each
  have CB : Hid (Calls Try.prog 52 #[.slice la l.length lc, .agg #[.int .i64 t.start, .slice ra t.reads.length rc, .slice wa t.writes.length wc]] W2 fun e w' => e = .returned (.int .i64 (ftE l t)) ∧ W2.grownBy w' none) := forestAndTxn_any W2 _ _ l t (hv.grown hg02) (hu.grown hg02) hf
  have NF : Hid (∀ w', Calls Try.prog 53 #[.slice na n.length nc] w' fun e w'' => e = .returned (.int .i64 (nameFaultF n.length)) ∧ w'' = w') := fun w' => nameFault_any w' na _ nc
  have KF : Hid (∀ w', Calls Try.prog 54 #[.slice ka k.length kc] w' fun e w'' => e = .returned (.int .i64 (keyFaultF k.length)) ∧ w'' = w') := fun w' => keyFault_any w' ka _ kc
  have FG : Hid (∀ w', W2.grownBy w' none → Calls Try.prog 56 #[.slice la l.length lc, .slice na n.length nc, .slice ka k.length kc] w' fun e w'' => ∃ x, e = .returned (.tuple #[.agg #[.bool (fgetB l n k), x], .int .i64 (fgetE l n k)]) ∧ SliceIs w'' x (fgetV l n k) ∧ w'.grownBy w'' none) := fun w' h => forestGet_any w' _ _ _ l n k (hv.grown (grown_trans hg02 h)) (ha.grown (grown_trans hg02 h)) (hb.grown (grown_trans hg02 h))
  have SN : Hid (∀ w' x q, W2.grownBy w' none → SliceIs w' x q → Calls Try.prog 55 #[x, .slice na n.length nc] w' fun e w'' => e = .returned (.bool (decide (q = n))) ∧ w'' = w') := fun w' x q h hx => rsame_any w' _ _ _ _ hx (ha.grown (grown_trans hg02 h))
  have SK : Hid (∀ w' x q, W2.grownBy w' none → SliceIs w' x q → Calls Try.prog 55 #[x, .slice ka k.length kc] w' fun e w'' => e = .returned (.bool (decide (q = k))) ∧ w'' = w') := fun w' x q h hx => rsame_any w' _ _ _ _ hx (hb.grown (grown_trans hg02 h))
  have HB1 : Hid (lookE l t n k ≠ 0 → lookO l t n k = false ∧ lookB l t n k = false ∧ lookV l t n k = []) := fun h => look_bad h
  have HB2 : Hid (ftE l t = 0 → ∀ m, m < t.writes.length → (t.writes.take m).any (atPl n k) = false → atPl n k (t.writes.getD m noPlc) = true → lookE l t n k = 0 ∧ lookO l t n k = true ∧ lookB l t n k = !(t.writes.getD m noPlc).gone ∧ lookV l t n k = (t.writes.getD m noPlc).value) := fun h m h1 h2 h3 => look_hit h h1 h2 h3
  have HB3 : Hid (ftE l t = 0 → t.writes.any (atPl n k) = false → lookE l t n k = fgetE l n k ∧ lookO l t n k = false ∧ lookB l t n k = fgetB l n k ∧ lookV l t n k = fgetV l n k) := fun h h1 => look_get h h1
  have HE : Hid (lookE l t n k = if ftE l t = 0 then (if nameFaultF n.length = 0 then keyFaultF k.length else nameFaultF n.length) else ftE l t) := rfl
  generalize lookE l t n k = ZE at *
  generalize lookO l t n k = ZO at *
  generalize lookB l t n k = ZB at *
  generalize lookV l t n k = ZV at *
  generalize fgetE l n k = GE at *
  generalize fgetB l n k = GB at *
  generalize fgetV l n k = GV at *
  generalize nameFaultF n.length = NE at *
  generalize keyFaultF k.length = KE at *
  clear hv hu hf ha hb hws B1 HW1 HW2 s1
  generalize t.start = st at *
  generalize t.reads.length = rl at *
  generalize t.writes = V at *
  go_enter Try.func22, Try.ntmps22
  go_upto_region 1 with fail
  rw [← HX.out]
  obtain ⟨FB, hFB⟩ : ∃ FB, FB = w.heap.size + 1 := ⟨_, rfl⟩
  obtain ⟨IB, hIB⟩ : ∃ IB, IB = w.heap.size := ⟨_, rfl⟩
  have wFB : w.heap.size ≤ FB := by omega
  rw [← hFB] at B2 ⊢
  rw [← hIB] at I2 ⊢
  clear hFB hIB HX
  obtain ⟨⟨c0, c1, c2⟩, _⟩ := trip_room2 I2.out
  go_wp2_with fail
  refine CB.out.mono ?_
  rintro e w3 ⟨rfl, hg3⟩
  clear c0 c1 c2
  by_cases h0 : ftE l t = 0
  · have HC2 : Hid (∀ m, m < V.length → (V.take m).any (atPl n k) = false → atPl n k (V.getD m noPlc) = true → ZE = 0 ∧ ZO = true ∧ ZB = !(V.getD m noPlc).gone ∧ ZV = (V.getD m noPlc).value) := HB2.out h0
    have HC3 : Hid (V.any (atPl n k) = false → ZE = GE ∧ ZO = false ∧ ZB = GB ∧ ZV = GV) := HB3.out h0
    have HE2 : Hid (ZE = if NE = 0 then KE else NE) := by show _ = _; rw [HE.out, if_pos h0]
    rw [h0]
    clear HB2 HB3 h0 CB HE
    go_wp2_with fail
    refine (NF.out _).mono ?_
    rintro e w4 ⟨rfl, rfl⟩
    by_cases hN : NE = 0
    · have HE3 : Hid (ZE = KE) := by show _ = _; rw [HE2.out, if_pos hN]
      rw [hN]
      clear HE2 hN
      go_wp2_with fail
      refine (KF.out _).mono ?_
      rintro e w5 ⟨rfl, rfl⟩
      by_cases hK : KE = 0
      · have HZ0 : Hid (ZE = 0) := by show _ = _; rw [HE3.out, hK]
        rw [hK]
        clear HE3 hK HB1
        go_wp2_with fail
        go_loopw [12, 13] (fun s12 _ wr => ∃ m : Nat, s12 = .int .i64 (m : Int) ∧ m ≤ V.length ∧ (V.take m).any (atPl n k) = false ∧ W2.grownBy wr none) (fun s12 _ _ => V.length - (intOf s12).toNat)
        case atStart => exact ⟨0, rfl, by omega, by simp, hg3⟩
        case round =>
          obtain ⟨m, rfl, hm, han, hg⟩ := hrel
          obtain ⟨c0, c1, c2⟩ := trip_room hg I2.out
          by_cases hlt : m < V.length
          · have i1 : (m : Int) < (V.length : Int) := by omega
            have hft := HFW.out m hlt
            obtain ⟨b, o, rfl, y1, y2, y3, y4, y5, y6, ⟨x1w, x2w, x3w, x4w⟩, hrd⟩ := writes_cells HWS.out m hlt
            have z1 := hg.cell x1w (by simp)
            have z2 := hg.cell x2w (by simp)
            have z3 := hg.cell x3w (by simp)
            have z4 := hg.cell x4w (by simp)
            obtain ⟨W5, HW5, hg5, B5⟩ := alloc_namedX wr (.cells #[.slice y1 (V.getD m noPlc).name.length y2, .slice y3 (V.getD m noPlc).key.length y4, .bool (V.getD m noPlc).gone, .slice y5 (V.getD m noPlc).value.length y6] 39)
            have hg25 := grown_trans hg hg5
            obtain ⟨x1, x2, x3, ex, v1, v2, v3⟩ := hrd
            simp only [Value.agg.injEq, Array.mk.injEq, List.cons.injEq, and_true] at ex
            obtain ⟨rfl, rfl, _, rfl⟩ := ex
            have S1 : Hid (Calls Try.prog 55 #[.slice y1 (V.getD m noPlc).name.length y2, .slice na n.length nc] W5 fun e w'' => e = .returned (.bool (decide ((V.getD m noPlc).name = n))) ∧ w'' = W5) := SN.out W5 _ _ hg25 (v1.grown hg25)
            have S2 : Hid (Calls Try.prog 55 #[.slice y3 (V.getD m noPlc).key.length y4, .slice ka k.length kc] W5 fun e w'' => e = .returned (.bool (decide ((V.getD m noPlc).key = k))) ∧ w'' = W5) := SK.out W5 _ _ hg25 (v2.grown hg25)
            have JN : Hid (∀ w', W5.grownBy w' none → Calls Try.prog 44 #[.slice y5 (V.getD m noPlc).value.length y6, .slice none 0 0] w' fun e w'' => ∃ v', e = .returned v' ∧ Own w'.heap.size w'' v' (V.getD m noPlc).value ∧ w'.grownBy w'' none) := fun w' h => by
              have := joined_gen w' _ (.slice none 0 0) (V.getD m noPlc).value [] (v3.grown (grown_trans hg25 h)) (sliceIs_nil _) (by simp; exact hft.2.2)
              rw [List.append_nil] at this
              exact this
            have HAT : Hid (atPl n k (V.getD m noPlc) = (decide ((V.getD m noPlc).name = n) && decide ((V.getD m noPlc).key = k))) := rfl
            have HA1 : Hid ((V.take (m + 1)).any (atPl n k) = ((V.take m).any (atPl n k) || atPl n k (V.getD m noPlc))) := any_takeS noPlc (atPl n k) V m hlt
            have HA2 : Hid (atPl n k (V.getD m noPlc) = true → ZE = 0 ∧ ZO = true ∧ ZB = !(V.getD m noPlc).gone ∧ ZV = (V.getD m noPlc).value) := HC2.out m hlt han
            have HAN : Hid ((V.take m).any (atPl n k) = false) := han
            have F5 : Hid (W5.heap[FB]? = some (.cells #[.bool false, .slice none 0 0] 45)) := pair_old hg25 B2.out
            have hne : wr.heap.size ≠ FB := by
              have := (Array.getElem?_eq_some_iff.1 (pair_old hg B2.out)).1
              omega
            obtain ⟨⟨q0, q1, q2, q3⟩, _⟩ := quad_room (grown_refl W5 none) B5.out
            clear v1 v2 v3 x1w x2w x3w x4w hft han
            generalize atPl n k (V.getD m noPlc) = AT at *
            generalize decide ((V.getD m noPlc).name = n) = EN at *
            generalize decide ((V.getD m noPlc).key = k) = EK at *
            generalize V.getD m noPlc = P at *
            go_upto_region 12 with fail
            rw [← HW5.out]
            obtain ⟨YB, hYB⟩ : ∃ YB, YB = wr.heap.size := ⟨_, rfl⟩
            rw [← hYB] at q0 q1 q2 q3 hne ⊢
            clear hYB z1 z2 z3 z4 c0 c1 c2 B5 HW5
            cases EN with
            | false =>
              have HN : Hid ((V.take (m + 1)).any (atPl n k) = false) := by show _ = _; rw [HA1.out, HAN.out, HAT.out]; rfl
              clear HA1 HA2 HAT
              go_wp2_with fail
              refine S1.out.mono ?_
              rintro e w6 ⟨rfl, rfl⟩
              go_wp2_with fail
              go_roundw
              case rel =>
                first
                  | exact ⟨m + 1, by go_num, by omega, HN.out, hg25⟩
                  | ((repeat apply Exists.intro); refine ⟨⟨m + 1, ?_, by omega, HN.out, hg25⟩, rfl⟩; go_num)
              case measure => simp [intOf]; omega
            | true => cases EK with
              | false =>
                have HN : Hid ((V.take (m + 1)).any (atPl n k) = false) := by show _ = _; rw [HA1.out, HAN.out, HAT.out]; rfl
                clear HA1 HA2 HAT
                go_wp2_with fail
                refine S1.out.mono ?_
                rintro e w6 ⟨rfl, rfl⟩
                go_wp2_with fail
                refine S2.out.mono ?_
                rintro e w6 ⟨rfl, rfl⟩
                go_wp2_with fail
                go_roundw
                case rel =>
                  first
                    | exact ⟨m + 1, by go_num, by omega, HN.out, hg25⟩
                    | ((repeat apply Exists.intro); refine ⟨⟨m + 1, ?_, by omega, HN.out, hg25⟩, rfl⟩; go_num)
                case measure => simp [intOf]; omega
              | true =>
                obtain ⟨e1, e2, e3, e4⟩ := HA2.out (by rw [HAT.out]; rfl)
                have HE1 : Hid (ZE = 0) := e1
                have HE2 : Hid (ZO = true) := e2
                have HE3 : Hid (ZB = !P.gone) := e3
                have HE4 : Hid (ZV = P.value) := e4
                clear e1 e2 e3 e4 HA1 HA2 HAT HC2 HC3
                go_wp2_with fail
                refine S1.out.mono ?_
                rintro e w6 ⟨rfl, rfl⟩
                go_wp2_with fail
                refine S2.out.mono ?_
                rintro e w6 ⟨rfl, rfl⟩
                go_wp2_with fail
                have hgd : w6.grownBy w6.drew none := grown_drew (grown_refl _ _)
                have e2 := hgd.cell q2 (by simp)
                have e3 := hgd.cell q3 (by simp)
                go_region_held3 (fun w' => w'.cell? ⟨YB, 2, none⟩ = some (.bool P.gone) ∧ w'.cell? ⟨YB, 3, none⟩ = some (.slice y5 P.value.length y6))
                  (first | with_reducible exact ⟨e2, e3⟩ | with_reducible exact ⟨f2, f3⟩ | (refine ⟨?_, ?_⟩ <;> (rw [World.cell?_setCell_other _ _ _ _ (by intro e; injection e with e1 e2; omega), World.cell?_setCell_other _ _ _ _ (by intro e; injection e with e1 e2; omega)]; assumption)))
                  (first
                    | (go_at_call 44; refine (JN.out _ hgd).mono ?_; rintro e w7 ⟨v7, rfl, ho7, hg7⟩; obtain ⟨xa, xc, rfl⟩ := ho7.shape; have hgd7 := grown_trans hgd hg7; have f2 := hg7.cell e2 (by simp); have f3 := hg7.cell e3 (by simp)
                       have hR := pair_old hgd7 F5.out
                       obtain ⟨k0, k1, k2, k3⟩ := two_cells' hR
                       have HR : Hid (w7.heap[FB]? = some (.cells #[.bool false, .slice none 0 0] 45)) := hR
                       have HS7 : Hid (SliceIs w7 (.slice xa P.value.length xc) P.value) := (ho7.part (base := 0)).slice
                       clear hR ho7))
                all_goals (
                  obtain ⟨cC, cD⟩ := pair_set (grown_refl w7 none) HR.out (.bool (!P.gone)) (.slice xa P.value.length xc)
                  have HSS : Hid (SliceIs ((w7.setCell ⟨FB, 0, none⟩ (.bool (!P.gone))).setCell ⟨FB, 1, none⟩ (.slice xa P.value.length xc)) (.slice xa P.value.length xc) P.value) := HS7.out.findS HR.out _ _
                  have hgq := grown_setNew (grown_setNew (grown_trans hg02 (grown_trans hg25 hgd7)) FB wFB 0 (.bool (!P.gone))) FB wFB 1 (.slice xa P.value.length xc)
                  go_wp2
                  refine bodyPost_ret (v := .tuple #[.agg #[.bool (!P.gone), .slice xa P.value.length xc], .bool true, .int .i64 0]) (by simp [results, Try.results22, go_sem, cC, cD]) rfl ?_
                  exact ⟨_, ret_lookR HE3.out HE2.out HE1.out, by rw [HE4.out]; exact HSS.out, hgq⟩)
          · obtain rfl : m = V.length := by omega
            have i1 : ¬ (V.length : Int) < (V.length : Int) := by omega
            rw [List.take_length] at han
            obtain ⟨e1, e2, e3, e4⟩ := HC3.out han
            have HE2 : Hid (ZO = false) := e2
            have HE3 : Hid (ZB = GB) := e3
            have HE4 : Hid (ZV = GV) := e4
            clear e1 e2 e3 e4 HC2 HC3 han
            go_wp2_with fail
            refine (FG.out _ hg).mono ?_
            rintro e w5 ⟨x, rfl, hx, hg5⟩
            obtain ⟨xa, xc, rfl⟩ := hx.shape
            obtain ⟨W6, HW6, hg6, B6⟩ := alloc_namedX w5 (.cells #[.bool GB, .slice xa GV.length xc] 45)
            have hg26 := grown_trans hg (grown_trans hg5 hg6)
            have HR := pair_old hg26 B2.out
            obtain ⟨k0, k1, k2, k3⟩ := two_cells' HR
            obtain ⟨d0, d1, _, _⟩ := two_cells' B6.out
            obtain ⟨cC, cD⟩ := pair_set (grown_refl W6 none) HR (.bool GB) (.slice xa GV.length xc)
            have HSS : Hid (SliceIs ((W6.setCell ⟨FB, 0, none⟩ (.bool GB)).setCell ⟨FB, 1, none⟩ (.slice xa GV.length xc)) (.slice xa GV.length xc) GV) := (hx.grown hg6).findS HR _ _
            have hgq := grown_setNew (grown_setNew (grown_trans hg02 hg26) FB wFB 0 (.bool GB)) FB wFB 1 (.slice xa GV.length xc)
            clear hx HR c0 c1 c2
            go_upto_region 15 with fail
            rw [← HW6.out]
            go_wp2
            refine bodyPost_ret (v := .tuple #[.agg #[.bool GB, .slice xa GV.length xc], .bool false, .int .i64 0]) (by simp [results, Try.results22, go_sem, cC, cD]) rfl ?_
            exact ⟨_, ret_lookR HE3.out HE2.out HZ0.out, by rw [HE4.out]; exact HSS.out, hgq⟩
      · obtain ⟨e2, e3, e4⟩ := HB1.out (by rw [HE3.out]; exact hK)
        have HE2 : Hid (ZO = false) := e2
        have HE4 : Hid (ZB = false) := e3
        have HE5 : Hid (ZV = []) := e4
        have hK' : (KE != 0) = true := by simpa using hK
        have HR := pair_old hg3 B2.out
        obtain ⟨k0, k1, k2, k3⟩ := two_cells' HR
        obtain ⟨cC, cD⟩ := pair_set (grown_refl _ none) HR (.bool false) (.slice none 0 0)
        have hgq := grown_setNew (grown_setNew (grown_trans hg02 hg3) FB wFB 0 (.bool false)) FB wFB 1 (.slice none 0 0)
        clear e2 e3 e4 hK HR HB1 HC2 HC3
        go_wp2
        refine bodyPost_ret (v := .tuple #[.agg #[.bool false, .slice none 0 0], .bool false, .int .i64 KE]) (by simp [results, Try.results22, go_sem, cC, cD]) rfl ?_
        exact ⟨_, ret_lookR HE4.out HE2.out HE3.out, by rw [HE5.out]; exact sliceIs_nil _, hgq⟩
    · have HE3 : Hid (ZE = NE) := by show _ = _; rw [HE2.out, if_neg hN]
      obtain ⟨e2, e3, e4⟩ := HB1.out (by rw [HE3.out]; exact hN)
      have HE1 : Hid (ZO = false) := e2
      have HE4 : Hid (ZB = false) := e3
      have HE5 : Hid (ZV = []) := e4
      have hN' : (NE == 0) = false := by simpa using hN
      have hN2 : (NE != 0) = true := by simpa using hN
      have HR := pair_old hg3 B2.out
      obtain ⟨k0, k1, k2, k3⟩ := two_cells' HR
      obtain ⟨cC, cD⟩ := pair_set (grown_refl _ none) HR (.bool false) (.slice none 0 0)
      have hgq := grown_setNew (grown_setNew (grown_trans hg02 hg3) FB wFB 0 (.bool false)) FB wFB 1 (.slice none 0 0)
      clear e2 e3 e4 hN HR HB1 HC2 HC3 HE2
      go_wp2
      refine bodyPost_ret (v := .tuple #[.agg #[.bool false, .slice none 0 0], .bool false, .int .i64 NE]) (by simp [results, Try.results22, go_sem, cC, cD]) rfl ?_
      exact ⟨_, ret_lookR HE4.out HE1.out HE3.out, by rw [HE5.out]; exact sliceIs_nil _, hgq⟩
  · have HE3 : Hid (ZE = ftE l t) := by show _ = _; rw [HE.out, if_neg h0]
    obtain ⟨e2, e3, e4⟩ := HB1.out (by rw [HE3.out]; exact h0)
    have HE1 : Hid (ZO = false) := e2
    have HE4 : Hid (ZB = false) := e3
    have HE5 : Hid (ZV = []) := e4
    generalize ftE l t = z at *
    have h0' : (z == 0) = false := by simpa using h0
    have h02 : (z != 0) = true := by simpa using h0
    have HR := pair_old hg3 B2.out
    obtain ⟨k0, k1, k2, k3⟩ := two_cells' HR
    obtain ⟨cC, cD⟩ := pair_set (grown_refl w3 none) HR (.bool false) (.slice none 0 0)
    have hgq := grown_setNew (grown_setNew (grown_trans hg02 hg3) FB wFB 0 (.bool false)) FB wFB 1 (.slice none 0 0)
    clear e2 e3 e4 h0 HR HB1 HB2 HB3 HE
    go_wp2
    refine bodyPost_ret (v := .tuple #[.agg #[.bool false, .slice none 0 0], .bool false, .int .i64 z]) (by simp [results, Try.results22, go_sem, cC, cD]) rfl ?_
    exact ⟨_, ret_lookR HE4.out HE1.out HE3.out, by rw [HE5.out]; exact sliceIs_nil _, hgq⟩
end Go.Proofs.Ytpmfbfflacbmjaa
