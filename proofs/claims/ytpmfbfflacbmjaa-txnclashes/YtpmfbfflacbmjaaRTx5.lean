/-
  The walk of the document's answer to P8.7: Clashes.
-/
import Derived.Test.YtpmfbfflacbmjaaRTx2
import Derived.Test.YtpmfbfflacbmjaaRTx4
import Derived.Test.YtpmfbfflacbmjaaPart2
import Derived.BigQuiet
import Derived.Deep.RegionHeld3
namespace Go.Proofs.Ytpmfbfflacbmjaa
open Go.RowKit
set_option maxRecDepth 100000 in
set_option maxHeartbeats 4000000 in
theorem clashes_any (w : World) (v u : Value) (t : Tx) (l : List Cmt) (hv : TxIs w v t) (hf : FitsX t) (hu : CommitsIs w u l) (hl : FitsCs l) :
    Calls Try.prog 30 #[v, u] w fun e w' => e = .returned (.tuple #[.bool (clashB t l), .int .i64 (clashE t)]) ∧ w.grownBy w' none := by
  obtain ⟨ra, rc, wa, wc, rfl⟩ := hv.agg
  obtain ⟨_, hr, hw⟩ := hv.parts
  obtain ⟨ca, cc, rfl⟩ := hu.shape
  obtain ⟨W1, HW1, hg1, B1⟩ := alloc_namedX w (.cells #[.int .i64 t.start, .slice ra t.reads.length rc, .slice wa t.writes.length wc] 25)
  obtain ⟨q0, q1, q2⟩ := trip_room (grown_refl W1 none) B1.out
  have HR : Hid (ReadsIs W1 (.slice ra t.reads.length rc) t.reads) := hr.grown hg1
  have HL : Hid (CommitsIs W1 (.slice ca l.length cc) l) := hu.grown hg1
  have TF : Hid (Calls Try.prog 11 #[.agg #[.int .i64 t.start, .slice ra t.reads.length rc, .slice wa t.writes.length wc]] W1 fun e w' => e = .returned (.int .i64 (txE t)) ∧ W1.grownBy w' none) := txnFault_any W1 _ t (hv.grown hg1) hf
  have hrl := hf.reads.many
  have hll := hl.many
  have HFC : Hid (∀ i, i < l.length → (l.getD i noCmt).writes.length * 80 ≤ 140737488355328) := fun i hi => (hl.each i hi).writes.many
  obtain ⟨Z, hZ⟩ : ∃ Z, Z = clashB t l := ⟨_, rfl⟩
  have HZ : Hid (Z = if txE t = 0 then clashL t l else false) := hZ
  have HCE : Hid (clashE t = txE t) := rfl
  rw [← hZ]
  obtain ⟨ZE, hZE⟩ : ∃ ZE, ZE = clashE t := ⟨_, rfl⟩
  rw [← hZE] at HCE ⊢
  clear hZ hZE hv hr hw hf hu hl
  by_cases h0 : txE t = 0
  · have HZ0 : Hid (ZE = 0) := by show _ = _; rw [HCE.out, h0]
    have HZL : Hid (Z = l.any fun c => decide (t.start < c.turn) && c.writes.any fun w => t.reads.any fun r => touch r w) := by show _ = _; rw [HZ.out, if_pos h0]; rfl
    rw [h0] at TF
    generalize t.reads = R at *
    generalize t.start = st at *
    generalize t.writes.length = wl at *
    clear h0 HZ HCE
    go_enter Try.func30, Try.ntmps30
    go_upto_region 1 with fail
    rw [← HW1.out]
    obtain ⟨XB, hXB⟩ : ∃ XB, XB = w.heap.size := ⟨_, rfl⟩
    rw [← hXB] at B1 q0 q1 q2 ⊢
    clear hXB
    go_wp2_with fail
    refine TF.out.mono ?_
    rintro e w1 ⟨rfl, hgf⟩
    clear q0 q1 q2 TF
    go_wp2_with fail
    go_loopw [7] (fun s7 wr => ∃ i : Nat, s7 = .int .i64 (i : Int) ∧ i ≤ l.length ∧ (l.take i).any (fun c => decide (st < c.turn) && c.writes.any fun w => R.any fun r => touch r w) = false ∧ W1.grownBy wr none) (fun s7 _ => l.length - (intOf s7).toNat)
    case atStart => exact ⟨0, rfl, by omega, by simp, hgf⟩
    case round =>
      obtain ⟨i, rfl, hi, hni, hg⟩ := hrel
      by_cases hil : i < l.length
      · have i1 : (i : Int) < (l.length : Int) := by omega
        obtain ⟨b, o, rfl, hat⟩ := HL.out.at i hil
        obtain ⟨vs, x1w, x2w, hws⟩ := hat
        have HNI : Hid ((l.take i).any (fun c => decide (st < c.turn) && c.writes.any fun w => R.any fun r => touch r w) = false) := hni
        have HS1 : Hid ((l.take (i + 1)).any (fun c => decide (st < c.turn) && c.writes.any fun w => R.any fun r => touch r w) = ((l.take i).any (fun c => decide (st < c.turn) && c.writes.any fun w => R.any fun r => touch r w) || (decide (st < (l.getD i noCmt).turn) && (l.getD i noCmt).writes.any fun w => R.any fun r => touch r w))) := any_takeS noCmt _ l i hil
        have HT1 : Hid ((decide (st < (l.getD i noCmt).turn) && (l.getD i noCmt).writes.any fun w => R.any fun r => touch r w) = true → Z = true) := fun h => by rw [HZL.out]; exact any_allT _ l noCmt i hil h
        have hwl := HFC.out i hil
        have HWS : Hid (WritesIs W1 vs (l.getD i noCmt).writes) := hws
        obtain ⟨sa, sc, rfl⟩ := hws.shape
        obtain ⟨V, hV⟩ : ∃ V, V = (l.getD i noCmt).writes := ⟨_, rfl⟩
        rw [← hV] at x2w HS1 HT1 hwl HWS
        generalize (l.getD i noCmt).turn = tn at *
        have X1 : Hid (W1.cell? ⟨b, o + i * 2, none⟩ = some (.int .i64 tn)) := x1w
        have X2 : Hid (W1.cell? ⟨b, o + i * 2 + 1, none⟩ = some (.slice sa V.length sc)) := x2w
        clear hni hws x1w x2w hV
        go_wp2_with fail
        go_loopw [8] (fun s8 wr => ∃ k : Nat, s8 = .int .i64 (k : Int) ∧ k ≤ V.length ∧ (decide (st < tn) && (V.take k).any fun w => R.any fun r => touch r w) = false ∧ W1.grownBy wr none) (fun s8 _ => V.length - (intOf s8).toNat)
        case atStart => exact ⟨0, rfl, by omega, by simp, hg⟩
        case round =>
          obtain ⟨k, rfl, hk, hnk, hg⟩ := hrel
          have y1 := hg.cell X1.out (by simp)
          have y2 := hg.cell X2.out (by simp)
          by_cases hkl : k < V.length
          · have i2 : (k : Int) < (V.length : Int) := by omega
            obtain ⟨b2, o2, rfl, g1, g2, g3, g4, g5, g6, ⟨p1, p2, p3, p4⟩, hwk⟩ := writes_cells HWS.out k hkl
            have HNK : Hid ((decide (st < tn) && (V.take k).any fun w => R.any fun r => touch r w) = false) := hnk
            have HS2 : Hid ((V.take (k + 1)).any (fun w => R.any fun r => touch r w) = ((V.take k).any (fun w => R.any fun r => touch r w) || R.any fun r => touch r (V.getD k noPlc))) := any_takeS noPlc _ V k hkl
            have HT2 : Hid (decide (st < tn) = true → (R.any fun r => touch r (V.getD k noPlc)) = true → Z = true) := fun h1 h2 => HT1.out (by rw [Bool.and_eq_true]; exact ⟨h1, any_allT _ V noPlc k hkl h2⟩)
            have PM : Hid (W1.cell? ⟨b2, o2 + k * 4, none⟩ = some (.slice g1 (V.getD k noPlc).name.length g2) ∧ W1.cell? ⟨b2, o2 + k * 4 + 1, none⟩ = some (.slice g3 (V.getD k noPlc).key.length g4) ∧ W1.cell? ⟨b2, o2 + k * 4 + 2, none⟩ = some (.bool (V.getD k noPlc).gone) ∧ W1.cell? ⟨b2, o2 + k * 4 + 3, none⟩ = some (.slice g5 (V.getD k noPlc).value.length g6)) := ⟨p1, p2, p3, p4⟩
            have HWK : Hid (WriteIs W1 (.agg #[.slice g1 (V.getD k noPlc).name.length g2, .slice g3 (V.getD k noPlc).key.length g4, .bool (V.getD k noPlc).gone, .slice g5 (V.getD k noPlc).value.length g6]) (V.getD k noPlc)) := hwk
            clear hnk p1 p2 p3 p4 hwk
            obtain ⟨Q, hQ⟩ : ∃ Q, Q = V.getD k noPlc := ⟨_, rfl⟩
            rw [← hQ] at HS2 HT2 PM HWK
            clear hQ
            go_wp2_with fail
            clear y1 y2
            go_loopw [9] (fun s9 wr => ∃ j : Nat, s9 = .int .i64 (j : Int) ∧ j ≤ R.length ∧ (decide (st < tn) && (R.take j).any fun r => touch r Q) = false ∧ W1.grownBy wr none) (fun s9 _ => R.length - (intOf s9).toNat)
            case atStart => exact ⟨0, rfl, by omega, by simp, hg⟩
            case round =>
              obtain ⟨j, rfl, hj, hnj, hg⟩ := hrel
              obtain ⟨c0, c1, c2⟩ := trip_room hg B1.out
              have y1 := hg.cell X1.out (by simp)
              have y2 := hg.cell X2.out (by simp)
              have HNJ : Hid ((decide (st < tn) && (R.take j).any fun r => touch r Q) = false) := hnj
              clear hnj
              by_cases hjl : j < R.length
              · have i3 : (j : Int) < (R.length : Int) := by omega
                obtain ⟨b3, o3, rfl, h1, h2, h3, h4, h5, h6, ⟨r1, r2, r3, r4⟩, hrj⟩ := reads_cells HR.out j hjl
                have HS3 : Hid ((R.take (j + 1)).any (fun r => touch r Q) = ((R.take j).any (fun r => touch r Q) || touch (R.getD j noRd) Q)) := any_takeS noRd (fun r => touch r Q) R j hjl
                have HT3 : Hid (touch (R.getD j noRd) Q = true → (R.any fun r => touch r Q) = true) := fun h => any_allT (fun r => touch r Q) R noRd j hjl h
                have TC : Hid (∀ w', W1.grownBy w' none → Calls Try.prog 71 #[.agg #[.slice h1 (R.getD j noRd).name.length h2, .slice h3 (R.getD j noRd).key.length h4, .bool (R.getD j noRd).wide, .slice h5 (R.getD j noRd).last.length h6], .agg #[.slice g1 Q.name.length g2, .slice g3 Q.key.length g4, .bool Q.gone, .slice g5 Q.value.length g6]] w' fun e w'' => e = .returned (.bool (touch (R.getD j noRd) Q)) ∧ w'.grownBy w'' none) := fun w' h => touched_any w' _ _ _ _ (hrj.grown h) (HWK.out.grown h)
                have z1 := hg.cell r1 (by simp)
                have z2 := hg.cell r2 (by simp)
                have z3 := hg.cell r3 (by simp)
                have z4 := hg.cell r4 (by simp)
                obtain ⟨p1, p2, p3, p4⟩ := PM.out
                have t1 := hg.cell p1 (by simp)
                have t2 := hg.cell p2 (by simp)
                have t3 := hg.cell p3 (by simp)
                have t4 := hg.cell p4 (by simp)
                generalize touch (R.getD j noRd) Q = TB at *
                generalize (R.getD j noRd).name.length = n1 at *
                generalize (R.getD j noRd).key.length = n2 at *
                generalize (R.getD j noRd).last.length = n3 at *
                generalize (R.getD j noRd).wide = wd at *
                clear r1 r2 r3 r4 p1 p2 p3 p4 hrj
                by_cases hst : st < tn
                · have j1 : tn > st := hst
                  have j2 : decide (tn > st) = true := by simpa using hst
                  have HST : Hid (decide (st < tn) = true) := by show _ = _; simpa using hst
                  clear hst
                  go_wp2_with fail
                  have hgd : wr.grownBy wr.drew none := grown_drew (grown_refl _ _)
                  have m0 := hgd.cell c0 (by simp)
                  have m1 := hgd.cell c1 (by simp)
                  have m2 := hgd.cell y1 (by simp)
                  have m3 := hgd.cell y2 (by simp)
                  have e1 := hgd.cell z1 (by simp)
                  have e2 := hgd.cell z2 (by simp)
                  have e3 := hgd.cell z3 (by simp)
                  have e4 := hgd.cell z4 (by simp)
                  have f1 := hgd.cell t1 (by simp)
                  have f2 := hgd.cell t2 (by simp)
                  have f3 := hgd.cell t3 (by simp)
                  have f4 := hgd.cell t4 (by simp)
                  go_region_held3 (fun w' => w'.cell? ⟨XB, 0, none⟩ = some (.int .i64 st) ∧ w'.cell? ⟨XB, 1, none⟩ = some (.slice (some ⟨b3, o3, none⟩) R.length rc) ∧ w'.cell? ⟨b, o + i * 2, none⟩ = some (.int .i64 tn) ∧ w'.cell? ⟨b, o + i * 2 + 1, none⟩ = some (.slice (some ⟨b2, o2, none⟩) V.length sc) ∧ w'.cell? ⟨b3, o3 + j * 4, none⟩ = some (.slice h1 n1 h2) ∧ w'.cell? ⟨b3, o3 + j * 4 + 1, none⟩ = some (.slice h3 n2 h4) ∧ w'.cell? ⟨b3, o3 + j * 4 + 2, none⟩ = some (.bool wd) ∧ w'.cell? ⟨b3, o3 + j * 4 + 3, none⟩ = some (.slice h5 n3 h6) ∧ w'.cell? ⟨b2, o2 + k * 4, none⟩ = some (.slice g1 Q.name.length g2) ∧ w'.cell? ⟨b2, o2 + k * 4 + 1, none⟩ = some (.slice g3 Q.key.length g4) ∧ w'.cell? ⟨b2, o2 + k * 4 + 2, none⟩ = some (.bool Q.gone) ∧ w'.cell? ⟨b2, o2 + k * 4 + 3, none⟩ = some (.slice g5 Q.value.length g6))
                    (first | exact ⟨m0, m1, m2, m3, e1, e2, e3, e4, f1, f2, f3, f4⟩ | exact ⟨hg4.cell m0 (by simp), hg4.cell m1 (by simp), hg4.cell m2 (by simp), hg4.cell m3 (by simp), hg4.cell e1 (by simp), hg4.cell e2 (by simp), hg4.cell e3 (by simp), hg4.cell e4 (by simp), hg4.cell f1 (by simp), hg4.cell f2 (by simp), hg4.cell f3 (by simp), hg4.cell f4 (by simp)⟩)
                    (first
                      | (go_at_call 71; refine (TC.out _ (grown_trans hg hgd)).mono ?_; rintro e w4 ⟨rfl, hg4⟩))
                  have hgw4 := grown_trans hg (grown_trans hgd hg4)
                  clear m0 m1 m2 m3 e1 e2 e3 e4 f1 f2 f3 f4 z1 z2 z3 z4 t1 t2 t3 t4 c0 c1 c2 y1 y2 TC
                  cases TB with
                  | true =>
                    have HZT : Hid (Z = true) := HT2.out HST.out (HT3.out rfl)
                    clear HS3 HT3 j1 j2
                    go_wp2
                    go_ret2
                    exact ⟨ret_twoX HZT.out HZ0.out, grown_trans hg1 hgw4⟩
                  | false =>
                    have HNN : Hid ((decide (st < tn) && (R.take (j + 1)).any fun r => touch r Q) = false) := by
                      show _ = _
                      rw [HS3.out, Bool.or_false]; exact HNJ.out
                    clear HS3 HT3 j1 j2
                    go_wp2_with fail
                    go_roundw
                    case rel =>
                      first
                        | exact ⟨j + 1, by go_num, by omega, HNN.out, hgw4⟩
                        | ((repeat apply Exists.intro); refine ⟨⟨j + 1, ?_, by omega, HNN.out, hgw4⟩, rfl⟩; go_num)
                    case measure => simp [intOf]; omega
                · have j2 : decide (tn > st) = false := by simpa using hst
                  have j3 : decide (st < tn) = false := by simpa using hst
                  have HNN : Hid ((decide (st < tn) && (R.take (j + 1)).any fun r => touch r Q) = false) := by show _ = _; rw [j3]; rfl
                  clear hst HS3 HT3 TC
                  go_upto_region 13 with fail
                  go_quiet (fail)
                  have hgq : W1.grownBy (wr.drewN nq) none := grown_drewN hg nq
                  clear z1 z2 z3 z4 t1 t2 t3 t4 c0 c1 c2 y1 y2 j2 j3
                  generalize wr.drewN nq = Wd at *
                  go_wp2_with fail
                  go_roundw
                  case rel =>
                    first
                      | exact ⟨j + 1, by go_num, by omega, HNN.out, hgq⟩
                      | ((repeat apply Exists.intro); refine ⟨⟨j + 1, ?_, by omega, HNN.out, hgq⟩, rfl⟩; go_num)
                  case measure => simp [intOf]; omega
              · obtain rfl : j = R.length := by omega
                have i3 : ¬ (R.length : Int) < (R.length : Int) := by omega
                have HNN : Hid ((decide (st < tn) && (V.take (k + 1)).any fun w => R.any fun r => touch r w) = false) := by
                  show _ = _
                  have h := HNJ.out
                  rw [List.take_length] at h
                  rw [HS2.out]
                  have h0 := HNK.out
                  cases hd : decide (st < tn) with
                  | false => rfl
                  | true =>
                    rw [hd, Bool.true_and] at h h0
                    rw [h, h0]; rfl
                clear c0 c2 y1 y2
                go_wp2_with fail
                go_roundw
                case rel =>
                  first
                    | exact ⟨k + 1, by go_num, by omega, HNN.out, hg⟩
                    | ((repeat apply Exists.intro); refine ⟨⟨k + 1, ?_, by omega, HNN.out, hg⟩, rfl⟩; go_num)
                case measure => simp [intOf]; omega
          · obtain rfl : k = V.length := by omega
            have i2 : ¬ (V.length : Int) < (V.length : Int) := by omega
            have HNN : Hid ((l.take (i + 1)).any (fun c => decide (st < c.turn) && c.writes.any fun w => R.any fun r => touch r w) = false) := by
              show _ = _
              rw [List.take_length] at hnk
              rw [HS1.out, HNI.out, hnk]; rfl
            clear hnk
            go_wp2_with fail
            go_roundw
            case rel =>
              first
                | exact ⟨i + 1, by go_num, by omega, HNN.out, hg⟩
                | ((repeat apply Exists.intro); refine ⟨⟨i + 1, ?_, by omega, HNN.out, hg⟩, rfl⟩; go_num)
            case measure => simp [intOf]; omega
      · obtain rfl : i = l.length := by omega
        have i1 : ¬ (l.length : Int) < (l.length : Int) := by omega
        have HZF : Hid (Z = false) := by show _ = _; rw [List.take_length] at hni; rw [HZL.out]; exact hni
        clear hni
        go_wp2
        go_ret2
        exact ⟨ret_twoX HZF.out HZ0.out, grown_trans hg1 hg⟩
  · have HZF : Hid (Z = false) := by show _ = _; rw [HZ.out, if_neg h0]
    generalize txE t = z at *
    have h0' : (z != 0) = true := by simpa using h0
    clear HZ h0
    go_enter Try.func30, Try.ntmps30
    go_upto_region 1 with fail
    rw [← HW1.out]
    go_wp2_with fail
    refine TF.out.mono ?_
    rintro e w1 ⟨rfl, hgf⟩
    go_wp2
    go_ret2
    exact ⟨ret_twoX HZF.out HCE.out, grown_trans hg1 hgf⟩
end Go.Proofs.Ytpmfbfflacbmjaa
