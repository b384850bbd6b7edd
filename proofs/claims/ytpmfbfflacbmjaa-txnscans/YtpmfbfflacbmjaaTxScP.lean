/-
  txn.Scan, as it landed, keeps P8.6.
-/
import Derived.Test.YtpmfbfflacbmjaaPart6
import Derived.Test.YtpmfbfflacbmjaaPart15
import Derived.Test.YtpmfbfflacbmjaaTxMtP
import Derived.Test.YtpmfbfflacbmjaaFRangeP
import Derived.Test.YtpmfbfflacbmjaaPart11
namespace Go.Proofs.Ytpmfbfflacbmjaa
open Go.RowKit
theorem ret_scan {x : Value} {e f : Int} (h3 : e = f) : Ending.returned (Value.tuple #[x, .int .i64 f]) = Ending.returned (Value.tuple #[x, .int .i64 e]) := by rw [h3]
set_option maxRecDepth 100000 in
set_option maxHeartbeats 2000000 in
theorem writtenP_any (w : World) (v u : Value) (X : PL) (q : Plc) (hv : PairsIs w v X) (hX : Tree X) (hu : WriteIs w u q) (hq : PlcFits q) :
    Calls Try.prog 60 #[v, u] w fun e w' => ∃ x, e = .returned (.tuple #[x, .int .i64 (if q.gone = true then getE X q.key else putE X (q.key, q.value))]) ∧ PairsIs w' x (if q.gone = true then delF X q.key else putF X (q.key, q.value)) ∧ w.grownBy w' none := by
  obtain ⟨a, cap, rfl⟩ := hv.shape
  obtain ⟨ma, mc, ja, jc, ha, hc, rfl⟩ := hu.aggW
  obtain ⟨x1, x2, x3, ex, v1, v2, v3⟩ := hu
  simp only [Value.agg.injEq, Array.mk.injEq, List.cons.injEq, and_true] at ex
  obtain ⟨rfl, rfl, _, rfl⟩ := ex
  obtain ⟨W1, HW1, hg1, B1⟩ := alloc_namedX w (.cells #[.slice ma q.name.length mc, .slice ja q.key.length jc, .bool q.gone, .slice ha q.value.length hc] 39)
  obtain ⟨⟨a0, a1, a2, a3⟩, _⟩ := quad_room (grown_refl W1 none) B1.out
  have DL : Hid (Calls Try.prog 91 #[.slice a X.length cap, .slice ja q.key.length jc] W1 fun e w' => ∃ x, e = .returned (.tuple #[x, .int .i64 (getE X q.key)]) ∧ PairsIs w' x (delF X q.key) ∧ W1.grownBy w' none) := tdel_ok W1 _ _ X q.key (hv.grown hg1) (v2.grown hg1) hX.fits hq.2.1
  have PT : Hid (Calls Try.prog 92 #[.slice a X.length cap, .agg #[.slice ja q.key.length jc, .slice ha q.value.length hc]] W1 fun e w' => ∃ x, e = .returned (.tuple #[x, .int .i64 (putE X (q.key, q.value))]) ∧ PairsIs w' x (putF X (q.key, q.value)) ∧ W1.grownBy w' none) := tput_ok W1 _ _ X (q.key, q.value) (hv.grown hg1) ⟨_, _, rfl, v2.grown hg1, v3.grown hg1⟩ hX.fits hq.2.1 hq.2.2
  clear hv v1 v2 v3 B1
  generalize getE X q.key = GE at *
  generalize delF X q.key = DF at *
  generalize putE X (q.key, q.value) = PE at *
  generalize putF X (q.key, q.value) = PF at *
  generalize q.name.length = n4 at *
  generalize q.key.length = n5 at *
  generalize q.value.length = n6 at *
  generalize q.gone = wq at *
  cases wq with
  | true =>
    rw [if_pos rfl, if_pos rfl]
    go_enter Try.func60, Try.ntmps60
    go_upto_region 1 with fail
    rw [← HW1.out]
    go_wp2_with fail
    refine DL.out.mono ?_
    rintro e w2 ⟨x, rfl, hx, hg2⟩
    go_wp2
    go_ret2
    exact ⟨_, rfl, hx, grown_trans hg1 hg2⟩
  | false =>
    rw [if_neg (by decide), if_neg (by decide)]
    go_enter Try.func60, Try.ntmps60
    go_upto_region 1 with fail
    rw [← HW1.out]
    go_wp2_with fail
    refine PT.out.mono ?_
    rintro e w2 ⟨x, rfl, hx, hg2⟩
    go_wp2
    go_ret2
    exact ⟨_, rfl, hx, grown_trans hg1 hg2⟩
set_option maxRecDepth 100000 in
set_option maxHeartbeats 4000000 in
theorem txscan_ok : TxScanOK := by
  intro w v u a b c l t n k m hv hl hu hf ha hb hc hn hk hm
  obtain ⟨la, lc, rfl⟩ := hv.shape
  obtain ⟨ra, rc, wa, wd, rfl⟩ := hu.agg
  obtain ⟨na, nc, rfl⟩ := ha.shape
  obtain ⟨ka, kc, rfl⟩ := hb.shape
  obtain ⟨ma, mc, rfl⟩ := hc.shape
  obtain ⟨_, _, hws⟩ := hu.parts
  obtain ⟨W1, HW1, hg1, B1⟩ := alloc_namedX w (.cells #[.int .i64 t.start, .slice ra t.reads.length rc, .slice wa t.writes.length wd] 25)
  have HWS : Hid (WritesIs W1 (.slice wa t.writes.length wd) t.writes) := hws.grown hg1
  have hwl := hf.writes.many
  have HFW : Hid (∀ i, i < t.writes.length → PlcFits (t.writes.getD i noPlc)) := hf.writes.each
  have CB : Hid (Calls Try.prog 48 #[.slice la l.length lc, .agg #[.int .i64 t.start, .slice ra t.reads.length rc, .slice wa t.writes.length wd]] W1 fun e w' => e = .returned (.int .i64 (ftE l t)) ∧ W1.grownBy w' none) := checkBoth_any W1 _ _ l t (hv.grown hg1) hl (hu.grown hg1) hf
  have FR : Hid (∀ w', W1.grownBy w' none → Calls Try.prog 58 #[.slice la l.length lc, .slice na n.length nc, .slice ka k.length kc, .slice ma m.length mc] w' fun e w'' => ∃ x, e = .returned (.tuple #[x, .int .i64 (frangeE l n k m)]) ∧ PairsIs w'' x (frangeF l n k m) ∧ w'.grownBy w'' none) := fun w' h => frange_ok' w' _ _ _ _ l n k m (hv.grown (grown_trans hg1 h)) (ha.grown (grown_trans hg1 h)) (hb.grown (grown_trans hg1 h)) (hc.grown (grown_trans hg1 h)) hl hn hk hm
  have MT : Hid (∀ w' x q, W1.grownBy w' none → WriteIs w' x q → Calls Try.prog 59 #[.agg #[.slice na n.length nc, .slice ka k.length kc, .bool true, .slice ma m.length mc], x] w' fun e w'' => e = .returned (.bool (touch ⟨n, k, true, m⟩ q)) ∧ w'.grownBy w'' none) := fun w' x q h hx => meets_any w' _ x ⟨n, k, true, m⟩ q ⟨_, _, _, rfl, ha.grown (grown_trans hg1 h), hb.grown (grown_trans hg1 h), hc.grown (grown_trans hg1 h)⟩ hx
  have WP : Hid (∀ w' x y (X : PL) (q : Plc), PairsIs w' x X → Tree X → WriteIs w' y q → PlcFits q → Calls Try.prog 60 #[x, y] w' fun e w'' => ∃ x', e = .returned (.tuple #[x', .int .i64 (if q.gone = true then getE X q.key else putE X (q.key, q.value))]) ∧ PairsIs w'' x' (if q.gone = true then delF X q.key else putF X (q.key, q.value)) ∧ w'.grownBy w'' none) := fun w' x y X q h1 h2 h3 h4 => writtenP_any w' x y X q h1 h2 h3 h4
  have HB1 : Hid (ftE l t ≠ 0 → scanE l t n k m = ftE l t ∧ scanF l t n k m = []) := fun h => scan_ft h
  have HB2 : Hid (ftE l t = 0 → frangeE l n k m ≠ 0 → scanE l t n k m = frangeE l n k m ∧ scanF l t n k m = []) := fun h h1 => scan_range h h1
  have HB3 : Hid (ftE l t = 0 → frangeE l n k m = 0 → scanAt n k m (frangeF l n k m) t.writes = (scanE l t n k m, scanF l t n k m) ∧ Tree (frangeF l n k m)) := fun h h1 => scan_start h h1
  have HWO : Hid (ftE l t = 0 → ∀ i, i < t.writes.length → writeE (t.writes.getD i noPlc) = 0) := fun h i hi => by
    have := (ft_ok h).2.wrs t.writes[i] (List.getElem_mem hi)
    rwa [show t.writes[i] = t.writes.getD i noPlc by simp [hi]] at this
  generalize scanE l t n k m = ZE at *
  generalize scanF l t n k m = ZF at *
  generalize frangeE l n k m = RE at *
  generalize frangeF l n k m = RF at *
  clear hv hl hu hf ha hb hc hws
  generalize t.start = st at *
  generalize t.reads.length = rl at *
  generalize t.writes = V at *
  obtain ⟨q0, q1, q2⟩ := trip_room (grown_refl W1 none) B1.out
  go_enter Try.func24, Try.ntmps24
  go_upto_region 1 with fail
  rw [← HW1.out]
  obtain ⟨IB, hIB⟩ : ∃ IB, IB = w.heap.size := ⟨_, rfl⟩
  rw [← hIB] at B1 q0 q1 q2 ⊢
  clear hIB HW1
  go_wp2_with fail
  refine CB.out.mono ?_
  rintro e w2 ⟨rfl, hg2⟩
  clear q0 q1 q2 CB
  by_cases h0 : ftE l t = 0
  · rw [h0]
    have HC2 : Hid (RE ≠ 0 → ZE = RE ∧ ZF = []) := HB2.out h0
    have HC3 : Hid (RE = 0 → scanAt n k m RF V = (ZE, ZF) ∧ Tree RF) := HB3.out h0
    have HW0 : Hid (∀ i, i < V.length → writeE (V.getD i noPlc) = 0) := HWO.out h0
    clear HB1 HB2 HB3 HWO h0
    go_wp2_with fail
    refine (FR.out _ hg2).mono ?_
    rintro e w3 ⟨x, rfl, hx, hg3⟩
    have hg13 := grown_trans hg2 hg3
    obtain ⟨xa, xc, rfl⟩ := hx.shape
    by_cases hr : RE = 0
    · obtain ⟨hs, hT⟩ := HC3.out hr
      have HS0 : Hid (scanAt n k m RF V = (ZE, ZF)) := hs
      have HT0 : Hid (Tree RF) := hT
      have HX0 : Hid (PairsIs w3 (.slice xa RF.length xc) RF) := hx
      subst hr
      obtain ⟨W4, HW4, hg4, B4⟩ := alloc_namedX w3 (.cells #[.slice na n.length nc, .slice ka k.length kc, .bool true, .slice ma m.length mc] 33)
      have hg14 := grown_trans hg13 hg4
      obtain ⟨c0, c1, c2⟩ := trip_room hg14 B1.out
      clear hs hT hx HC2 HC3 FR
      go_upto_region 8 with fail
      rw [← HW4.out]
      obtain ⟨SB, hSB⟩ : ∃ SB, SB = w3.heap.size := ⟨_, rfl⟩
      rw [← hSB] at B4 ⊢
      clear hSB HW4
      go_wp2_with fail
      clear c0 c1 c2
      go_loopw [13, 14, 17, 42] (fun s13 _ _ s42 wr => ∃ (i : Nat) (X : PL), s42 = .int .i64 (i : Int) ∧ i ≤ V.length ∧ PairsIs wr s13 X ∧ Tree X ∧ scanAt n k m X (V.drop i) = (ZE, ZF) ∧ W4.grownBy wr none) (fun _ _ _ s42 _ => V.length - (intOf s42).toNat)
      case atStart => exact ⟨0, RF, rfl, by omega, HX0.out.grown hg4, HT0.out, HS0.out, grown_refl _ _⟩
      case round =>
        obtain ⟨i, X, rfl, hi, hX, hT, hs, hg⟩ := hrel
        obtain ⟨ya, yc, rfl⟩ := hX.shape
        by_cases hlt : i < V.length
        · have i1 : (i : Int) < (V.length : Int) := by omega
          have hg1r := grown_trans hg14 hg
          obtain ⟨b, o, rfl, y1, y2, y3, y4, y5, y6, ⟨x1w, x2w, x3w, x4w⟩, hrd⟩ := writes_cells HWS.out i hlt
          have z1 := hg1r.cell x1w (by simp)
          have z2 := hg1r.cell x2w (by simp)
          have z3 := hg1r.cell x3w (by simp)
          have z4 := hg1r.cell x4w (by simp)
          obtain ⟨W5, HW5, hg5, B5⟩ := alloc_namedX wr (.cells #[.slice y1 (V.getD i noPlc).name.length y2, .slice y3 (V.getD i noPlc).key.length y4, .bool (V.getD i noPlc).gone, .slice y5 (V.getD i noPlc).value.length y6] 39)
          have hgr5 := grown_trans hg hg5
          have hg15 := grown_trans hg14 hgr5
          have MM : Hid (Calls Try.prog 59 #[.agg #[.slice na n.length nc, .slice ka k.length kc, .bool true, .slice ma m.length mc], .agg #[.slice y1 (V.getD i noPlc).name.length y2, .slice y3 (V.getD i noPlc).key.length y4, .bool (V.getD i noPlc).gone, .slice y5 (V.getD i noPlc).value.length y6]] W5 fun e w'' => e = .returned (.bool (touch ⟨n, k, true, m⟩ (V.getD i noPlc))) ∧ W5.grownBy w'' none) := MT.out W5 _ _ hg15 (hrd.grown hg15)
          have hft := HFW.out i hlt
          have hwo := HW0.out i hlt
          have WW : Hid (∀ w', W5.grownBy w' none → Calls Try.prog 60 #[.slice ya X.length yc, .agg #[.slice y1 (V.getD i noPlc).name.length y2, .slice y3 (V.getD i noPlc).key.length y4, .bool (V.getD i noPlc).gone, .slice y5 (V.getD i noPlc).value.length y6]] w' fun e w'' => ∃ x', e = .returned (.tuple #[x', .int .i64 (if (V.getD i noPlc).gone = true then getE X (V.getD i noPlc).key else putE X ((V.getD i noPlc).key, (V.getD i noPlc).value))]) ∧ PairsIs w'' x' (if (V.getD i noPlc).gone = true then delF X (V.getD i noPlc).key else putF X ((V.getD i noPlc).key, (V.getD i noPlc).value)) ∧ w'.grownBy w'' none) := fun w' h => WP.out w' _ _ X _ (hX.grown (grown_trans hg5 h)) hT (hrd.grown (grown_trans hg15 h)) hft
          have K0 : Hid (touch ⟨n, k, true, m⟩ (V.getD i noPlc) = false → scanAt n k m X (V.drop (i + 1)) = (ZE, ZF)) := fun h => by
            have e := scan_off h X
            have := scanAt_go (n := n) (a := k) (b := m) (X := X) hlt (by rw [e]; have := hT.room; omega)
            rw [e] at this
            rw [← this]; exact hs
          have K1 : Hid (touch ⟨n, k, true, m⟩ (V.getD i noPlc) = true → ∃ (zE : Int) (zF : PL), (if (V.getD i noPlc).gone = true then getE X (V.getD i noPlc).key else putE X ((V.getD i noPlc).key, (V.getD i noPlc).value)) = zE ∧ (if (V.getD i noPlc).gone = true then delF X (V.getD i noPlc).key else putF X ((V.getD i noPlc).key, (V.getD i noPlc).value)) = zF ∧ ((zE = 0 ∧ Tree zF ∧ scanAt n k m zF (V.drop (i + 1)) = (ZE, ZF)) ∨ (zE = 11 ∧ ZE = 11 ∧ ZF = []))) := fun h => by
            by_cases hg : (V.getD i noPlc).gone = true
            · rw [if_pos hg, if_pos hg]
              obtain ⟨d1, d2, d3⟩ := scan_del h hg hT hwo
              refine ⟨_, _, rfl, rfl, .inl ⟨d1, by rw [d2]; exact d3, ?_⟩⟩
              rw [d2, ← scanAt_go hlt (by have := d3.room; omega)]; exact hs
            · have hg' : (V.getD i noPlc).gone = false := by simpa using hg
              rw [if_neg hg, if_neg hg]
              obtain ⟨d0, d1, d2⟩ := scan_put h hg' hT hwo
              by_cases h60 : 60 < (scanN n k m X (V.getD i noPlc)).length
              · have e := scanAt_full (n := n) (a := k) (b := m) (X := X) hlt h60
                rw [hs] at e
                simp only [Prod.mk.injEq] at e
                exact ⟨_, _, rfl, rfl, .inr ⟨d1 h60, e.1, e.2⟩⟩
              · obtain ⟨d3, d4, d5⟩ := d2 h60
                refine ⟨_, _, rfl, rfl, .inl ⟨d3, by rw [d4]; exact d5, ?_⟩⟩
                rw [d4, ← scanAt_go hlt h60]; exact hs
          obtain ⟨⟨d0, d1, d2, d3⟩, _⟩ := quad_room (grown_refl W5 none) B5.out
          obtain ⟨⟨g0, g1, g2, g3⟩, _⟩ := quad_room hgr5 B4.out
          have HXX : Hid (PairsIs wr (.slice ya X.length yc) X) := hX
          have HTT : Hid (Tree X) := hT
          clear hrd x1w x2w x3w x4w hs hft hwo hX hT
          generalize touch ⟨n, k, true, m⟩ (V.getD i noPlc) = TB at *
          generalize (if (V.getD i noPlc).gone = true then getE X (V.getD i noPlc).key else putE X ((V.getD i noPlc).key, (V.getD i noPlc).value)) = WE at *
          generalize (if (V.getD i noPlc).gone = true then delF X (V.getD i noPlc).key else putF X ((V.getD i noPlc).key, (V.getD i noPlc).value)) = WF at *
          generalize V.getD i noPlc = P at *
          go_upto_region 11 with fail
          rw [← HW5.out]
          obtain ⟨YB, hYB⟩ : ∃ YB, YB = wr.heap.size := ⟨_, rfl⟩
          rw [← hYB] at d0 d1 d2 d3 B5 ⊢
          clear hYB HW5 z1 z2 z3 z4
          go_wp2_with fail
          refine MM.out.mono ?_
          rintro e w6 ⟨rfl, hg6⟩
          clear MM d0 d1 d2 d3 g0 g1 g2 g3
          have hgr6 := grown_trans hgr5 hg6
          cases TB with
          | false =>
            have HN : Hid (scanAt n k m X (V.drop (i + 1)) = (ZE, ZF)) := K0.out rfl
            clear K0 K1 WW
            go_wp2_with fail
            go_roundw
            case rel =>
              first
                | exact ⟨i + 1, X, by go_num, by omega, HXX.out.grown (grown_trans hg5 hg6), HTT.out, HN.out, hgr6⟩
                | ((repeat apply Exists.intro); refine ⟨⟨i + 1, X, ?_, by omega, HXX.out.grown (grown_trans hg5 hg6), HTT.out, HN.out, hgr6⟩, rfl⟩; go_num)
            case measure => simp [intOf]; omega
          | true =>
            obtain ⟨zE, zF, hzE, hzF, hor⟩ := K1.out rfl
            subst hzE hzF
            have HOR : Hid ((WE = 0 ∧ Tree WF ∧ scanAt n k m WF (V.drop (i + 1)) = (ZE, ZF)) ∨ (WE = 11 ∧ ZE = 11 ∧ ZF = [])) := hor
            clear hor K0 K1
            obtain ⟨⟨d0, d1, d2, d3⟩, _⟩ := quad_room hg6 B5.out
            go_wp2_with fail
            refine (WW.out _ hg6).mono ?_
            rintro e w7 ⟨x7, rfl, hx7, hg7⟩
            obtain ⟨xa7, xc7, rfl⟩ := hx7.shape
            have HX7 : Hid (PairsIs w7 (.slice xa7 WF.length xc7) WF) := hx7
            have hgr7 := grown_trans hgr6 hg7
            clear hx7 d0 d1 d2 d3 WW
            rcases HOR.out with ⟨o1, o2, o3⟩ | ⟨o1, o2, o3⟩
            · have HT7 : Hid (Tree WF) := o2
              have HN : Hid (scanAt n k m WF (V.drop (i + 1)) = (ZE, ZF)) := o3
              clear HOR o2 o3
              subst o1
              go_wp2_with fail
              go_roundw
              case rel =>
                first
                  | exact ⟨i + 1, WF, by go_num, by omega, HX7.out, HT7.out, HN.out, hgr7⟩
                  | ((repeat apply Exists.intro); refine ⟨⟨i + 1, WF, ?_, by omega, HX7.out, HT7.out, HN.out, hgr7⟩, rfl⟩; go_num)
              case measure => simp [intOf]; omega
            · have HE1 : Hid (ZE = 11) := o2
              have HE2 : Hid (ZF = []) := o3
              clear HOR o2 o3
              subst o1
              go_wp2
              go_ret2
              exact ⟨_, ret_scan HE1.out, by rw [HE2.out]; exact pairsIs_nil _, grown_trans hg1 (grown_trans hg14 hgr7)⟩
        · obtain rfl : i = V.length := by omega
          have i1 : ¬ (V.length : Int) < (V.length : Int) := by omega
          rw [List.drop_length, scanAt_nil] at hs
          simp only [Prod.mk.injEq] at hs
          have HE1 : Hid (ZE = 0) := hs.1.symm
          have HE2 : Hid (X = ZF) := hs.2
          have HXX : Hid (PairsIs wr (.slice ya X.length yc) X) := hX
          clear hs hX hT
          go_wp2
          go_ret2
          exact ⟨_, ret_scan HE1.out, by rw [← HE2.out]; exact HXX.out, grown_trans hg1 (grown_trans hg14 hg)⟩
    · obtain ⟨e1, e2⟩ := HC2.out hr
      have HE1 : Hid (ZE = RE) := e1
      have HE2 : Hid (ZF = []) := e2
      have hr' : (RE != 0) = true := by simpa using hr
      clear e1 e2 hr HC2 HC3 hx
      go_wp2
      go_ret2
      exact ⟨_, ret_scan HE1.out, by rw [HE2.out]; exact pairsIs_nil _, grown_trans hg1 hg13⟩
  · obtain ⟨e1, e2⟩ := HB1.out h0
    have HE1 : Hid (ZE = ftE l t) := e1
    have HE2 : Hid (ZF = []) := e2
    generalize ftE l t = z at *
    have h0' : (z != 0) = true := by simpa using h0
    clear e1 e2 h0 HB1 HB2 HB3 HWO
    go_wp2
    go_ret2
    exact ⟨_, ret_scan HE1.out, by rw [HE2.out]; exact pairsIs_nil _, grown_trans hg1 hg2⟩
end Go.Proofs.Ytpmfbfflacbmjaa
