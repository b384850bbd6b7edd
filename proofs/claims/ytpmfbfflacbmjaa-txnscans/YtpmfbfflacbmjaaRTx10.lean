/-
  The walk of the document's answer to P8.6: Scanned.
-/
import Derived.Test.YtpmfbfflacbmjaaRTx9
import Derived.Test.YtpmfbfflacbmjaaRForR
import Derived.Test.YtpmfbfflacbmjaaPart19
namespace Go.Proofs.Ytpmfbfflacbmjaa
open Go.RowKit
theorem ret_scanR {x : Value} {e f : Int} (h3 : e = f) : Ending.returned (Value.tuple #[x, .int .i64 f]) = Ending.returned (Value.tuple #[x, .int .i64 e]) := by rw [h3]
set_option maxRecDepth 100000 in
set_option maxHeartbeats 4000000 in
theorem scanned_any (w : World) (v u a b c : Value) (l : FL) (t : Tx) (n k m : List UInt8) (hv : TensIs w v l) (hu : TxIs w u t) (hf : FitsX t) (ha : SliceIs w a n) (hb : SliceIs w b k) (hc : SliceIs w c m) :
    Calls Try.prog 25 #[v, u, a, b, c] w fun e w' => ∃ x, e = .returned (.tuple #[x, .int .i64 (scanE l t n k m)]) ∧ PairsIs w' x (scanF l t n k m) ∧ w.grownBy w' none := by
  obtain ⟨la, lc, rfl⟩ := hv.shape
  obtain ⟨ra, rc, wa, wd, rfl⟩ := hu.agg
  obtain ⟨na, nc, rfl⟩ := ha.shape
  obtain ⟨ka, kc, rfl⟩ := hb.shape
  obtain ⟨ma, mc, rfl⟩ := hc.shape
  obtain ⟨_, _, hws⟩ := hu.parts
  obtain ⟨W1, HW1, hg1, B1⟩ := alloc_namedX w (.cells #[.int .i64 t.start, .slice ra t.reads.length rc, .slice wa t.writes.length wd] 25)
  have HWS : Hid (WritesIs W1 (.slice wa t.writes.length wd) t.writes) := hws.grown hg1
  have hwl := hf.writes.many
  have HFW : Hid (∀ i, i < t.writes.length → PlcFits (t.writes.getD i noPlc)) := hf.writes.each
  have CB : Hid (Calls Try.prog 52 #[.slice la l.length lc, .agg #[.int .i64 t.start, .slice ra t.reads.length rc, .slice wa t.writes.length wd]] W1 fun e w' => e = .returned (.int .i64 (ftE l t)) ∧ W1.grownBy w' none) := forestAndTxn_any W1 _ _ l t (hv.grown hg1) (hu.grown hg1) hf
  have NF : Hid (∀ w', Calls Try.prog 53 #[.slice na n.length nc] w' fun e w'' => e = .returned (.int .i64 (nameFaultF n.length)) ∧ w'' = w') := fun w' => nameFault_any w' na _ nc
  have KF : Hid (∀ w', Calls Try.prog 54 #[.slice ka k.length kc] w' fun e w'' => e = .returned (.int .i64 (keyFaultF k.length)) ∧ w'' = w') := fun w' => keyFault_any w' ka _ kc
  have MF : Hid (∀ w', Calls Try.prog 54 #[.slice ma m.length mc] w' fun e w'' => e = .returned (.int .i64 (keyFaultF m.length)) ∧ w'' = w') := fun w' => keyFault_any w' ma _ mc
  have FR : Hid (∀ w', W1.grownBy w' none → Calls Try.prog 61 #[.slice la l.length lc, .slice na n.length nc, .slice ka k.length kc, .slice ma m.length mc] w' fun e w'' => ∃ x, e = .returned (.tuple #[x, .int .i64 (frangeE l n k m)]) ∧ PairsIs w'' x (frangeF l n k m) ∧ w'.grownBy w'' none) := fun w' h => forestRange_any w' _ _ _ _ l n k m (hv.grown (grown_trans hg1 h)) (ha.grown (grown_trans hg1 h)) (hb.grown (grown_trans hg1 h)) (hc.grown (grown_trans hg1 h))
  have SN : Hid (∀ w' x q, W1.grownBy w' none → SliceIs w' x q → Calls Try.prog 55 #[x, .slice na n.length nc] w' fun e w'' => e = .returned (.bool (decide (q = n))) ∧ w'' = w') := fun w' x q h hx => rsame_any w' _ _ _ _ hx (ha.grown (grown_trans hg1 h))
  have BK : Hid (∀ w' x q, W1.grownBy w' none → SliceIs w' x q → Calls Try.prog 62 #[x, .slice ka k.length kc] w' fun e w'' => e = .returned (.bool (klt q k)) ∧ w'' = w') := fun w' x q h hx => before_any w' _ _ _ _ hx (hb.grown (grown_trans hg1 h))
  have BM : Hid (∀ w' x q, W1.grownBy w' none → SliceIs w' x q → Calls Try.prog 62 #[.slice ma m.length mc, x] w' fun e w'' => e = .returned (.bool (klt m q)) ∧ w'' = w') := fun w' x q h hx => before_any w' _ _ _ _ (hc.grown (grown_trans hg1 h)) hx
  have DL : Hid (∀ w' x y (X : PL) (q : List UInt8), PairsIs w' x X → SliceIs w' y q → Calls Try.prog 63 #[x, y] w' fun e w'' => ∃ x', e = .returned (.tuple #[x', .int .i64 (getE X q)]) ∧ PairsIs w'' x' (delF X q) ∧ w'.grownBy w'' none) := fun w' x y X q h1 h2 => deletedOf_any w' x y X q h1 h2
  have PT : Hid (∀ w' x y (X : PL) (q : Pr), PairsIs w' x X → PairIs w' y q → Calls Try.prog 64 #[x, y] w' fun e w'' => ∃ x', e = .returned (.tuple #[x', .int .i64 (putE X q)]) ∧ PairsIs w'' x' (putF X q) ∧ w'.grownBy w'' none) := fun w' x y X q h1 h2 => putOf_any w' x y X q h1 h2
  have HB1 : Hid (ftE l t ≠ 0 → scanE l t n k m = ftE l t ∧ scanF l t n k m = []) := fun h => scan_ft h
  have HFE : Hid (ftE l t = 0 → frangeE l n k m = if nameFaultF n.length = 0 then (if keyFaultF k.length = 0 then keyFaultF m.length else keyFaultF k.length) else nameFaultF n.length) := fun h => by
    have hf := (ft_ok h).1
    rw [frangeE, fnE, if_pos ((forest_iff l).2 hf)]
    by_cases hn : nameFaultF n.length = 0
    · rw [if_pos hn, if_pos hn, rangeE, getE, if_pos ((tree_iff _).2 (of_tree hf n))]
    · rw [if_neg hn, if_neg hn]
  have HB2 : Hid (ftE l t = 0 → frangeE l n k m ≠ 0 → scanE l t n k m = frangeE l n k m ∧ scanF l t n k m = []) := fun h h1 => scan_range h h1
  have HB3 : Hid (ftE l t = 0 → frangeE l n k m = 0 → scanAt n k m (frangeF l n k m) t.writes = (scanE l t n k m, scanF l t n k m) ∧ Tree (frangeF l n k m)) := fun h h1 => scan_start h h1
  have HWO : Hid (ftE l t = 0 → ∀ i, i < t.writes.length → writeE (t.writes.getD i noPlc) = 0) := fun h i hi => by
    have := (ft_ok h).2.wrs t.writes[i] (List.getElem_mem hi)
    rwa [show t.writes[i] = t.writes.getD i noPlc by simp [hi]] at this
  generalize scanE l t n k m = ZE at *
  generalize scanF l t n k m = ZF at *
  generalize frangeE l n k m = RE at *
  generalize frangeF l n k m = RF at *
  generalize nameFaultF n.length = NE at *
  generalize keyFaultF k.length = KE at *
  generalize keyFaultF m.length = ME at *
  clear hv hu hf ha hb hc hws
  generalize t.start = st at *
  generalize t.reads.length = rl at *
  generalize t.writes = V at *
  obtain ⟨q0, q1, q2⟩ := trip_room (grown_refl W1 none) B1.out
  go_enter Try.func25, Try.ntmps25
  go_upto_region 1 with fail
  rw [← HW1.out]
  obtain ⟨IB, hIB⟩ : ∃ IB, IB = w.heap.size := ⟨_, rfl⟩
  rw [← hIB] at B1 q0 q1 q2 ⊢
  clear hIB HW1
  go_wp2_with fail
  refine CB.out.mono ?_
  rintro e w2 ⟨rfl, hg2⟩
  clear q0 q1 q2 CB
  by_cases h0 : ftE l t = 0
  · rw [h0]
    have HC2 : Hid (RE ≠ 0 → ZE = RE ∧ ZF = []) := HB2.out h0
    have HC3 : Hid (RE = 0 → scanAt n k m RF V = (ZE, ZF) ∧ Tree RF) := HB3.out h0
    have HW0 : Hid (∀ i, i < V.length → writeE (V.getD i noPlc) = 0) := HWO.out h0
    have HFE2 : Hid (RE = if NE = 0 then (if KE = 0 then ME else KE) else NE) := HFE.out h0
    clear HB1 HB2 HB3 HWO h0 HFE
    go_wp2_with fail
    refine (NF.out _).mono ?_
    rintro e w3 ⟨rfl, rfl⟩
    by_cases hN : NE = 0
    · rw [hN]
      go_wp2_with fail
      refine (KF.out _).mono ?_
      rintro e w3 ⟨rfl, rfl⟩
      by_cases hK : KE = 0
      · rw [hK]
        go_wp2_with fail
        refine (MF.out _).mono ?_
        rintro e w3 ⟨rfl, rfl⟩
        by_cases hM : ME = 0
        · have hr : RE = 0 := by rw [HFE2.out, if_pos hN, if_pos hK, hM]
          rw [hM]
          obtain ⟨hs, hT⟩ := HC3.out hr
          have HS0 : Hid (scanAt n k m RF V = (ZE, ZF)) := hs
          have HT0 : Hid (Tree RF) := hT
          subst hr
          clear hs hT HC2 HC3 HFE2 hN hK hM NF KF MF
          go_wp2_with fail
          refine (FR.out _ hg2).mono ?_
          rintro e w4 ⟨x, rfl, hx, hg4⟩
          have hg14 := grown_trans hg2 hg4
          obtain ⟨xa, xc, rfl⟩ := hx.shape
          have HX0 : Hid (PairsIs w4 (.slice xa RF.length xc) RF) := hx
          clear hx FR
          go_wp2_with fail
          go_loopw [13, 15, 16, 17, 18] (fun s13 s15 _ _ _ wr => ∃ (i : Nat) (X : PL), s15 = .int .i64 (i : Int) ∧ i ≤ V.length ∧ PairsIs wr s13 X ∧ Tree X ∧ scanAt n k m X (V.drop i) = (ZE, ZF) ∧ W1.grownBy wr none) (fun _ s15 _ _ _ _ => V.length - (intOf s15).toNat)
          case atStart => exact ⟨0, RF, rfl, by omega, HX0.out, HT0.out, HS0.out, hg14⟩
          case round =>
            obtain ⟨i, X, rfl, hi, hX, hT, hs, hg⟩ := hrel
            obtain ⟨ya, yc, rfl⟩ := hX.shape
            obtain ⟨c0, c1, c2⟩ := trip_room hg B1.out
            by_cases hlt : i < V.length
            · have i1 : (i : Int) < (V.length : Int) := by omega
              obtain ⟨b, o, rfl, y1, y2, y3, y4, y5, y6, ⟨x1w, x2w, x3w, x4w⟩, hrd⟩ := writes_cells HWS.out i hlt
              have z1 := hg.cell x1w (by simp)
              have z2 := hg.cell x2w (by simp)
              have z3 := hg.cell x3w (by simp)
              have z4 := hg.cell x4w (by simp)
              obtain ⟨W5, HW5, hg5, B5⟩ := alloc_namedX wr (.cells #[.slice y1 (V.getD i noPlc).name.length y2, .slice y3 (V.getD i noPlc).key.length y4, .bool (V.getD i noPlc).gone, .slice y5 (V.getD i noPlc).value.length y6] 39)
              have hg15 := grown_trans hg hg5
              have hwo := HW0.out i hlt
              obtain ⟨x1, x2, x3, ex, v1, v2, v3⟩ := hrd
              simp only [Value.agg.injEq, Array.mk.injEq, List.cons.injEq, and_true] at ex
              obtain ⟨rfl, rfl, _, rfl⟩ := ex
              have S1 : Hid (Calls Try.prog 55 #[.slice y1 (V.getD i noPlc).name.length y2, .slice na n.length nc] W5 fun e w'' => e = .returned (.bool (decide ((V.getD i noPlc).name = n))) ∧ w'' = W5) := SN.out W5 _ _ hg15 (v1.grown hg15)
              have S2 : Hid (Calls Try.prog 62 #[.slice y3 (V.getD i noPlc).key.length y4, .slice ka k.length kc] W5 fun e w'' => e = .returned (.bool (klt (V.getD i noPlc).key k)) ∧ w'' = W5) := BK.out W5 _ _ hg15 (v2.grown hg15)
              have S3 : Hid (Calls Try.prog 62 #[.slice ma m.length mc, .slice y3 (V.getD i noPlc).key.length y4] W5 fun e w'' => e = .returned (.bool (klt m (V.getD i noPlc).key)) ∧ w'' = W5) := BM.out W5 _ _ hg15 (v2.grown hg15)
              have D1 : Hid (Calls Try.prog 63 #[.slice ya X.length yc, .slice y3 (V.getD i noPlc).key.length y4] W5 fun e w'' => ∃ x', e = .returned (.tuple #[x', .int .i64 (getE X (V.getD i noPlc).key)]) ∧ PairsIs w'' x' (delF X (V.getD i noPlc).key) ∧ W5.grownBy w'' none) := DL.out W5 _ _ X _ (hX.grown hg5) (v2.grown hg15)
              have P1 : Hid (Calls Try.prog 64 #[.slice ya X.length yc, .agg #[.slice y3 (V.getD i noPlc).key.length y4, .slice y5 (V.getD i noPlc).value.length y6]] W5 fun e w'' => ∃ x', e = .returned (.tuple #[x', .int .i64 (putE X ((V.getD i noPlc).key, (V.getD i noPlc).value))]) ∧ PairsIs w'' x' (putF X ((V.getD i noPlc).key, (V.getD i noPlc).value)) ∧ W5.grownBy w'' none) := PT.out W5 _ _ X ((V.getD i noPlc).key, (V.getD i noPlc).value) (hX.grown hg5) ⟨_, _, rfl, v2.grown hg15, v3.grown hg15⟩
              have HTO : Hid (touch ⟨n, k, true, m⟩ (V.getD i noPlc) = (decide ((V.getD i noPlc).name = n) && (!klt (V.getD i noPlc).key k && !klt m (V.getD i noPlc).key))) := by
                show (decide (n = (V.getD i noPlc).name) && (!klt (V.getD i noPlc).key k && !klt m (V.getD i noPlc).key)) = _
                congr 1
                exact decide_eq_decide.2 ⟨fun e => e.symm, fun e => e.symm⟩
              have K0 : Hid (touch ⟨n, k, true, m⟩ (V.getD i noPlc) = false → scanAt n k m X (V.drop (i + 1)) = (ZE, ZF)) := fun h => by
                have e := scan_off h X
                have := scanAt_go (n := n) (a := k) (b := m) (X := X) hlt (by rw [e]; have := hT.room; omega)
                rw [e] at this
                rw [← this]; exact hs
              have K1 : Hid (touch ⟨n, k, true, m⟩ (V.getD i noPlc) = true → (V.getD i noPlc).gone = true → Tree (delF X (V.getD i noPlc).key) ∧ scanAt n k m (delF X (V.getD i noPlc).key) (V.drop (i + 1)) = (ZE, ZF)) := fun h hg => by
                obtain ⟨d1, d2, d3⟩ := scan_del h hg hT hwo
                refine ⟨by rw [d2]; exact d3, ?_⟩
                rw [d2, ← scanAt_go hlt (by have := d3.room; omega)]; exact hs
              have K2 : Hid (touch ⟨n, k, true, m⟩ (V.getD i noPlc) = true → (V.getD i noPlc).gone = false → (putE X ((V.getD i noPlc).key, (V.getD i noPlc).value) = 0 ∧ Tree (putF X ((V.getD i noPlc).key, (V.getD i noPlc).value)) ∧ scanAt n k m (putF X ((V.getD i noPlc).key, (V.getD i noPlc).value)) (V.drop (i + 1)) = (ZE, ZF)) ∨ (putE X ((V.getD i noPlc).key, (V.getD i noPlc).value) = 11 ∧ ZE = 11 ∧ ZF = [])) := fun h hg' => by
                obtain ⟨d0, d1, d2⟩ := scan_put h hg' hT hwo
                by_cases h60 : 60 < (scanN n k m X (V.getD i noPlc)).length
                · have e := scanAt_full (n := n) (a := k) (b := m) (X := X) hlt h60
                  rw [hs] at e
                  simp only [Prod.mk.injEq] at e
                  exact .inr ⟨d1 h60, e.1, e.2⟩
                · obtain ⟨d3, d4, d5⟩ := d2 h60
                  refine .inl ⟨d3, by rw [d4]; exact d5, ?_⟩
                  rw [d4, ← scanAt_go hlt h60]; exact hs
              obtain ⟨⟨d0, d1, d2, d3⟩, _⟩ := quad_room (grown_refl W5 none) B5.out
              have HXX : Hid (PairsIs wr (.slice ya X.length yc) X) := hX
              have HTT : Hid (Tree X) := hT
              clear v1 v2 v3 x1w x2w x3w x4w hs hwo hX hT
              generalize touch ⟨n, k, true, m⟩ (V.getD i noPlc) = TB at *
              generalize decide ((V.getD i noPlc).name = n) = EN at *
              generalize klt (V.getD i noPlc).key k = L1 at *
              generalize klt m (V.getD i noPlc).key = L2 at *
              generalize getE X (V.getD i noPlc).key = GE at *
              generalize delF X (V.getD i noPlc).key = GF at *
              generalize putE X ((V.getD i noPlc).key, (V.getD i noPlc).value) = PE at *
              generalize putF X ((V.getD i noPlc).key, (V.getD i noPlc).value) = PF at *
              generalize (V.getD i noPlc).name.length = n1 at *
              generalize (V.getD i noPlc).key.length = n2 at *
              generalize (V.getD i noPlc).value.length = n3 at *
              generalize (V.getD i noPlc).gone = g1 at *
              go_upto_region 15 with fail
              rw [← HW5.out]
              obtain ⟨YB, hYB⟩ : ∃ YB, YB = wr.heap.size := ⟨_, rfl⟩
              rw [← hYB] at d0 d1 d2 d3 B5 ⊢
              clear hYB HW5 z1 z2 z3 z4 c0 c1 c2
              cases EN with
              | false =>
                have HN : Hid (scanAt n k m X (V.drop (i + 1)) = (ZE, ZF)) := K0.out (by rw [HTO.out]; rfl)
                clear K0 K1 K2 HTO
                go_wp2_with fail
                refine S1.out.mono ?_
                rintro e w6 ⟨rfl, rfl⟩
                go_wp2_with fail
                go_roundw
                case rel =>
                  first
                    | exact ⟨i + 1, X, by go_num, by omega, HXX.out.grown hg5, HTT.out, HN.out, hg15⟩
                    | ((repeat apply Exists.intro); refine ⟨⟨i + 1, X, ?_, by omega, HXX.out.grown hg5, HTT.out, HN.out, hg15⟩, rfl⟩; go_num)
                case measure => simp [intOf]; omega
              | true => cases L1 with
                | true =>
                  have HN : Hid (scanAt n k m X (V.drop (i + 1)) = (ZE, ZF)) := K0.out (by rw [HTO.out]; rfl)
                  clear K0 K1 K2 HTO
                  go_wp2_with fail
                  refine S1.out.mono ?_
                  rintro e w6 ⟨rfl, rfl⟩
                  go_wp2_with fail
                  refine S2.out.mono ?_
                  rintro e w6 ⟨rfl, rfl⟩
                  go_wp2_with fail
                  go_roundw
                  case rel =>
                    first
                      | exact ⟨i + 1, X, by go_num, by omega, HXX.out.grown hg5, HTT.out, HN.out, hg15⟩
                      | ((repeat apply Exists.intro); refine ⟨⟨i + 1, X, ?_, by omega, HXX.out.grown hg5, HTT.out, HN.out, hg15⟩, rfl⟩; go_num)
                  case measure => simp [intOf]; omega
                | false => cases L2 with
                  | true =>
                    have HN : Hid (scanAt n k m X (V.drop (i + 1)) = (ZE, ZF)) := K0.out (by rw [HTO.out]; rfl)
                    clear K0 K1 K2 HTO
                    go_wp2_with fail
                    refine S1.out.mono ?_
                    rintro e w6 ⟨rfl, rfl⟩
                    go_wp2_with fail
                    refine S2.out.mono ?_
                    rintro e w6 ⟨rfl, rfl⟩
                    go_wp2_with fail
                    refine S3.out.mono ?_
                    rintro e w6 ⟨rfl, rfl⟩
                    go_wp2_with fail
                    go_roundw
                    case rel =>
                      first
                        | exact ⟨i + 1, X, by go_num, by omega, HXX.out.grown hg5, HTT.out, HN.out, hg15⟩
                        | ((repeat apply Exists.intro); refine ⟨⟨i + 1, X, ?_, by omega, HXX.out.grown hg5, HTT.out, HN.out, hg15⟩, rfl⟩; go_num)
                    case measure => simp [intOf]; omega
                  | false =>
                    have hTB : TB = true := by rw [HTO.out]; rfl
                    cases g1 with
                    | true =>
                      obtain ⟨o2, o3⟩ := K1.out hTB rfl
                      have HT7 : Hid (Tree GF) := o2
                      have HN : Hid (scanAt n k m GF (V.drop (i + 1)) = (ZE, ZF)) := o3
                      clear K0 K1 K2 HTO hTB o2 o3
                      go_wp2_with fail
                      refine S1.out.mono ?_
                      rintro e w6 ⟨rfl, rfl⟩
                      go_wp2_with fail
                      refine S2.out.mono ?_
                      rintro e w6 ⟨rfl, rfl⟩
                      go_wp2_with fail
                      refine S3.out.mono ?_
                      rintro e w6 ⟨rfl, rfl⟩
                      go_wp2_with fail
                      refine D1.out.mono ?_
                      rintro e w7 ⟨x7, rfl, hx7, hg7⟩
                      have HX7 : Hid (PairsIs w7 x7 GF) := hx7
                      clear hx7
                      go_wp2_with fail
                      go_roundw
                      case rel =>
                        first
                          | exact ⟨i + 1, GF, by go_num, by omega, HX7.out, HT7.out, HN.out, grown_trans hg15 hg7⟩
                          | ((repeat apply Exists.intro); refine ⟨⟨i + 1, GF, ?_, by omega, HX7.out, HT7.out, HN.out, grown_trans hg15 hg7⟩, rfl⟩; go_num)
                      case measure => simp [intOf]; omega
                    | false =>
                      have HOR := K2.out hTB rfl
                      have HOR2 : Hid ((PE = 0 ∧ Tree PF ∧ scanAt n k m PF (V.drop (i + 1)) = (ZE, ZF)) ∨ (PE = 11 ∧ ZE = 11 ∧ ZF = [])) := HOR
                      clear K0 K1 K2 HTO hTB HOR
                      go_wp2_with fail
                      refine S1.out.mono ?_
                      rintro e w6 ⟨rfl, rfl⟩
                      go_wp2_with fail
                      refine S2.out.mono ?_
                      rintro e w6 ⟨rfl, rfl⟩
                      go_wp2_with fail
                      refine S3.out.mono ?_
                      rintro e w6 ⟨rfl, rfl⟩
                      go_wp2_with fail
                      refine P1.out.mono ?_
                      rintro e w7 ⟨x7, rfl, hx7, hg7⟩
                      have HX7 : Hid (PairsIs w7 x7 PF) := hx7
                      clear hx7
                      rcases HOR2.out with ⟨o1, o2, o3⟩ | ⟨o1, o2, o3⟩
                      · have HT7 : Hid (Tree PF) := o2
                        have HN : Hid (scanAt n k m PF (V.drop (i + 1)) = (ZE, ZF)) := o3
                        clear HOR2 o2 o3
                        subst o1
                        go_wp2_with fail
                        go_roundw
                        case rel =>
                          first
                            | exact ⟨i + 1, PF, by go_num, by omega, HX7.out, HT7.out, HN.out, grown_trans hg15 hg7⟩
                            | ((repeat apply Exists.intro); refine ⟨⟨i + 1, PF, ?_, by omega, HX7.out, HT7.out, HN.out, grown_trans hg15 hg7⟩, rfl⟩; go_num)
                        case measure => simp [intOf]; omega
                      · have HE1 : Hid (ZE = 11) := o2
                        have HE2 : Hid (ZF = []) := o3
                        clear HOR2 o2 o3
                        subst o1
                        go_wp2
                        go_ret2
                        exact ⟨_, ret_scanR HE1.out, by rw [HE2.out]; exact pairsIs_nil _, grown_trans hg1 (grown_trans hg15 hg7)⟩
            · obtain rfl : i = V.length := by omega
              have i1 : ¬ (V.length : Int) < (V.length : Int) := by omega
              rw [List.drop_length, scanAt_nil] at hs
              simp only [Prod.mk.injEq] at hs
              have HE1 : Hid (ZE = 0) := hs.1.symm
              have HE2 : Hid (X = ZF) := hs.2
              have HXX : Hid (PairsIs wr (.slice ya X.length yc) X) := hX
              clear hs hX hT
              go_wp2
              go_ret2
              exact ⟨_, ret_scanR HE1.out, by rw [← HE2.out]; exact HXX.out, grown_trans hg1 hg⟩
        · have hr : RE = ME := by rw [HFE2.out, if_pos hN, if_pos hK]
          obtain ⟨e1, e2⟩ := HC2.out (by rw [hr]; exact hM)
          have HE1 : Hid (ZE = ME) := by show _ = _; rw [e1, hr]
          have HE2 : Hid (ZF = []) := e2
          have hM' : (ME != 0) = true := by simpa using hM
          clear e1 e2 hr HC2 HC3 HFE2 hM hN hK
          go_wp2
          go_ret2
          exact ⟨_, ret_scanR HE1.out, by rw [HE2.out]; exact pairsIs_nil _, grown_trans hg1 hg2⟩
      · have hr : RE = KE := by rw [HFE2.out, if_pos hN, if_neg hK]
        obtain ⟨e1, e2⟩ := HC2.out (by rw [hr]; exact hK)
        have HE1 : Hid (ZE = KE) := by show _ = _; rw [e1, hr]
        have HE2 : Hid (ZF = []) := e2
        have hK' : (KE != 0) = true := by simpa using hK
        have hK2 : (KE == 0) = false := by simpa using hK
        clear e1 e2 hr HC2 HC3 HFE2 hN hK
        go_wp2
        go_ret2
        exact ⟨_, ret_scanR HE1.out, by rw [HE2.out]; exact pairsIs_nil _, grown_trans hg1 hg2⟩
    · have hr : RE = NE := by rw [HFE2.out, if_neg hN]
      obtain ⟨e1, e2⟩ := HC2.out (by rw [hr]; exact hN)
      have HE1 : Hid (ZE = NE) := by show _ = _; rw [e1, hr]
      have HE2 : Hid (ZF = []) := e2
      have hN' : (NE != 0) = true := by simpa using hN
      have hN2 : (NE == 0) = false := by simpa using hN
      clear e1 e2 hr HC2 HC3 HFE2 hN
      go_wp2
      go_ret2
      exact ⟨_, ret_scanR HE1.out, by rw [HE2.out]; exact pairsIs_nil _, grown_trans hg1 hg2⟩
  · obtain ⟨e1, e2⟩ := HB1.out h0
    have HE1 : Hid (ZE = ftE l t) := e1
    have HE2 : Hid (ZF = []) := e2
    generalize ftE l t = z at *
    have h0' : (z != 0) = true := by simpa using h0
    have h02 : (z == 0) = false := by simpa using h0
    clear e1 e2 h0 HB1 HB2 HB3 HWO HFE
    go_wp2
    go_ret2
    exact ⟨_, ret_scanR HE1.out, by rw [HE2.out]; exact pairsIs_nil _, grown_trans hg1 hg2⟩
end Go.Proofs.Ytpmfbfflacbmjaa
