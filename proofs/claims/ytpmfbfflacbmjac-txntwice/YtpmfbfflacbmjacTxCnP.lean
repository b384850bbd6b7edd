/-
  txn.Clash, as it landed, keeps P8.7: slices.ContainsFunc at reads and at writes, and the closures.
-/
import Derived.Test.YtpmfbfflacbmjacPart2
import Derived.Test.YtpmfbfflacbmjacTxMtP
import Derived.Test.YtpmfbfflacbmjacTxCkP
namespace Go.Proofs.Ytpmfbfflacbmjac
open Go.RowKit
set_option maxRecDepth 100000 in
theorem containsR_any (w : World) (v : Value) (l : List Rd) (p : Rd → Bool) (g : Nat) (lb : Array Value) (eg : ∀ args w, (callFunc g args).run Try.prog w = .ok (.enter g args) w) (hv : ReadsIs w v l) (hl : l.length ≤ 140737488355328)
    (hp : ∀ W x r, w.grownBy W none → ReadIs W x r → Calls Try.prog g (#[x] ++ lb) W fun e w' => e = .returned (.bool (p r)) ∧ W.grownBy w' none) :
    Calls Try.prog 24 #[v, .func (.func g) #[] lb] w fun e w' => e = .returned (.bool (l.any p)) ∧ w.grownBy w' none := by
  have IX : Hid (Calls Try.prog 50 #[v, .func (.func g) #[] lb] w fun e w' => e = .returned (.int .i64 (firstP p l)) ∧ w.grownBy w' none) := indexR_any w v l p g lb eg hv hl hp
  have HE : Hid (decide (0 ≤ firstP p l) = l.any p) := firstP_pos p l
  generalize firstP p l = F at *
  generalize l.any p = Z at *
  obtain ⟨a, cap, rfl⟩ := hv.shape
  clear hv hp
  go_enter Try.func24, Try.ntmps24
  go_wp2_with fail
  refine IX.out.mono ?_
  rintro e w2 ⟨rfl, hg2⟩
  go_wp2
  go_ret
  exact ⟨ret_boolX HE.out.symm, hg2⟩
set_option maxRecDepth 100000 in
theorem containsW_any (w : World) (v : Value) (l : List Plc) (p : Plc → Bool) (g : Nat) (lb : Array Value) (eg : ∀ args w, (callFunc g args).run Try.prog w = .ok (.enter g args) w) (hv : WritesIs w v l) (hl : l.length ≤ 140737488355328)
    (hp : ∀ W x r, w.grownBy W none → WriteIs W x r → Calls Try.prog g (#[x] ++ lb) W fun e w' => e = .returned (.bool (p r)) ∧ W.grownBy w' none) :
    Calls Try.prog 27 #[v, .func (.func g) #[] lb] w fun e w' => e = .returned (.bool (l.any p)) ∧ w.grownBy w' none := by
  have IX : Hid (Calls Try.prog 53 #[v, .func (.func g) #[] lb] w fun e w' => e = .returned (.int .i64 (firstP p l)) ∧ w.grownBy w' none) := indexW_any w v l p g lb eg hv hl hp
  have HE : Hid (decide (0 ≤ firstP p l) = l.any p) := firstP_pos p l
  generalize firstP p l = F at *
  generalize l.any p = Z at *
  obtain ⟨a, cap, rfl⟩ := hv.shape
  clear hv hp
  go_enter Try.func27, Try.ntmps27
  go_wp2_with fail
  refine IX.out.mono ?_
  rintro e w2 ⟨rfl, hg2⟩
  go_wp2
  go_ret
  exact ⟨ret_boolX HE.out.symm, hg2⟩
set_option maxRecDepth 100000 in
/-- The inner closure: the write lies in a block of its own. -/
theorem clash11_any (W : World) (qb : Nat) (x : Value) (r : Rd) (q : Plc) (ma ja ha : Option Addr) (mc jc hc : Nat) (hx : ReadIs W x r) (hb : W.heap[qb]? = some (.cells #[.slice ma q.name.length mc, .slice ja q.key.length jc, .bool q.gone, .slice ha q.value.length hc] 53))
    (hq : WriteIs W (.agg #[.slice ma q.name.length mc, .slice ja q.key.length jc, .bool q.gone, .slice ha q.value.length hc]) q) :
    Calls Try.prog 25 #[x, .pointer (some ⟨qb, 0, none⟩)] W fun e w' => e = .returned (.bool (touch r q)) ∧ W.grownBy w' none := by
  obtain ⟨na, nc, ka, kc, la, lc, rfl⟩ := hx.agg
  obtain ⟨W1, HW1, hg1, B1⟩ := alloc_namedX W (.cells #[.slice na r.name.length nc, .slice ka r.key.length kc, .bool r.wide, .slice la r.last.length lc] 40)
  obtain ⟨⟨a0, a1, a2, a3⟩, _⟩ := quad_room (grown_refl W1 none) B1.out
  obtain ⟨⟨b0, b1, b2, b3⟩, _⟩ := quad_room hg1 hb
  have MT : Hid (Calls Try.prog 26 #[.agg #[.slice na r.name.length nc, .slice ka r.key.length kc, .bool r.wide, .slice la r.last.length lc], .agg #[.slice ma q.name.length mc, .slice ja q.key.length jc, .bool q.gone, .slice ha q.value.length hc]] W1 fun e w' => e = .returned (.bool (touch r q)) ∧ W1.grownBy w' none) := meets_any W1 _ _ r q (hx.grown hg1) (hq.grown hg1)
  generalize touch r q = Z at *
  clear hx hq hb B1
  generalize r.name.length = n1 at *
  generalize r.key.length = n2 at *
  generalize r.last.length = n3 at *
  generalize q.name.length = n4 at *
  generalize q.key.length = n5 at *
  generalize q.value.length = n6 at *
  go_enter Try.func25, Try.ntmps25
  go_upto_region 1 with fail
  rw [← HW1.out]
  go_wp2_with fail
  refine MT.out.mono ?_
  rintro e w2 ⟨rfl, hg2⟩
  go_wp2
  go_ret
  exact ⟨rfl, grown_trans hg1 hg2⟩
set_option maxRecDepth 100000 in
/-- The outer closure: the transaction lies in a block of its own. -/
theorem clash1_any (W : World) (tb : Nat) (x : Value) (q : Plc) (R : List Rd) (c0 c2 : Value) (ra : Option Addr) (rc : Nat) (hx : WriteIs W x q) (hb : W.heap[tb]? = some (.cells #[c0, .slice ra R.length rc, c2] 28)) (hr : ReadsIs W (.slice ra R.length rc) R) (hl : R.length ≤ 140737488355328) :
    Calls Try.prog 23 #[x, .pointer (some ⟨tb, 0, none⟩)] W fun e w' => e = .returned (.bool (R.any fun r => touch r q)) ∧ W.grownBy w' none := by
  obtain ⟨ma, mc, ja, jc, ha, hc, rfl⟩ := hx.aggW
  obtain ⟨W1, HW1, hg1, B1⟩ := alloc_namedX W (.cells #[.slice ma q.name.length mc, .slice ja q.key.length jc, .bool q.gone, .slice ha q.value.length hc] 53)
  obtain ⟨b0, b1, b2⟩ := trip_room hg1 hb
  have CF : Hid (Calls Try.prog 24 #[.slice ra R.length rc, .func (.func 25) #[] #[.pointer (some ⟨W.heap.size, 0, none⟩)]] W1 fun e w' => e = .returned (.bool (R.any fun r => touch r q)) ∧ W1.grownBy w' none) :=
    containsR_any W1 _ R (fun r => touch r q) 25 #[.pointer (some ⟨W.heap.size, 0, none⟩)] (enters_of Try.func25 (by kernel_rfl) rfl) (hr.grown hg1) hl (fun W' y r hg hy => clash11_any W' W.heap.size y r q ma ja ha mc jc hc hy (pair_old hg B1.out) (hx.grown (grown_trans hg1 hg)))
  generalize (R.any fun r => touch r q) = Z at *
  clear hx hr hb B1
  go_enter Try.func23, Try.ntmps23
  go_upto_region 1 with fail
  rw [← HW1.out]
  go_wp2_with fail
  refine CF.out.mono ?_
  rintro e w2 ⟨rfl, hg2⟩
  go_wp2
  go_ret
  exact ⟨rfl, grown_trans hg1 hg2⟩
set_option maxRecDepth 100000 in
set_option maxHeartbeats 2000000 in
theorem txclash_ok : TxClashOK := by
  intro w v u t l hv hf hu hl
  obtain ⟨ra, rc, wa, wc, rfl⟩ := hv.agg
  obtain ⟨_, hr, hw⟩ := hv.parts
  obtain ⟨ca, cc, rfl⟩ := hu.shape
  obtain ⟨W1, HW1, hg1, B1⟩ := alloc_namedX w (.cells #[.int .i64 t.start, .slice ra t.reads.length rc, .slice wa t.writes.length wc] 28)
  obtain ⟨q0, q1, q2⟩ := trip_room (grown_refl W1 none) B1.out
  have HL : Hid (CommitsIs W1 (.slice ca l.length cc) l) := hu.grown hg1
  have TF : Hid (Calls Try.prog 18 #[.agg #[.int .i64 t.start, .slice ra t.reads.length rc, .slice wa t.writes.length wc]] W1 fun e w' => e = .returned (.int .i64 (txE t)) ∧ W1.grownBy w' none) := txcheck_ok W1 _ t (hv.grown hg1) hf
  have hrl := hf.reads.many
  have hll := hl.many
  have HFC : Hid (∀ i, i < l.length → (l.getD i noCmt).writes.length * 80 ≤ 140737488355328) := fun i hi => (hl.each i hi).writes.many
  have CF : Hid (∀ w' x (ws : List Plc), W1.grownBy w' none → WritesIs w' x ws → ws.length * 80 ≤ 140737488355328 → Calls Try.prog 27 #[x, .func (.func 23) #[] #[.pointer (some ⟨w.heap.size, 0, none⟩)]] w' fun e w'' => e = .returned (.bool (ws.any fun q => t.reads.any fun r => touch r q)) ∧ w'.grownBy w'' none) := fun w' x ws hg hx hws =>
    containsW_any w' x ws (fun q => t.reads.any fun r => touch r q) 23 #[.pointer (some ⟨w.heap.size, 0, none⟩)] (enters_of Try.func23 (by kernel_rfl) rfl) hx (by omega) (fun W' y q hg' hy => clash1_any W' w.heap.size y q t.reads (.int .i64 t.start) (.slice wa t.writes.length wc) ra rc hy (pair_old (grown_trans hg hg') B1.out) (hr.grown (grown_trans hg1 (grown_trans hg hg'))) (by omega))
  obtain ⟨Z, hZ⟩ : ∃ Z, Z = clashB t l := ⟨_, rfl⟩
  have HZ : Hid (Z = if txE t = 0 then clashL t l else false) := hZ
  have HCE : Hid (clashE t = txE t) := rfl
  rw [← hZ]
  obtain ⟨ZE, hZE⟩ : ∃ ZE, ZE = clashE t := ⟨_, rfl⟩
  rw [← hZE] at HCE ⊢
  clear hZ hZE hv hr hw hf hu hl
  by_cases h0 : txE t = 0
  · have HZ0 : Hid (ZE = 0) := by show _ = _; rw [HCE.out, h0]
    have HZL : Hid (Z = l.any fun c => decide (t.start < c.turn) && c.writes.any fun w => t.reads.any fun r => touch r w) := by show _ = _; rw [HZ.out, if_pos h0]; rfl
    rw [h0] at TF
    generalize t.reads = R at *
    generalize t.start = st at *
    generalize t.writes.length = wl at *
    clear h0 HZ HCE
    go_enter Try.func9, Try.ntmps9
    go_upto_region 1 with fail
    rw [← HW1.out]
    obtain ⟨XB, hXB⟩ : ∃ XB, XB = w.heap.size := ⟨_, rfl⟩
    rw [← hXB] at B1 q0 q1 q2 CF ⊢
    clear hXB
    go_wp2_with fail
    refine TF.out.mono ?_
    rintro e w1 ⟨rfl, hgf⟩
    clear q0 q1 q2 TF
    go_wp2_with fail
    go_loopw [9, 18] (fun _ s7 wr => ∃ i : Nat, s7 = .int .i64 (i : Int) ∧ i ≤ l.length ∧ (l.take i).any (fun c => decide (st < c.turn) && c.writes.any fun w => R.any fun r => touch r w) = false ∧ W1.grownBy wr none) (fun _ s7 _ => l.length - (intOf s7).toNat)
    case atStart => exact ⟨0, rfl, by omega, by simp, hgf⟩
    case round =>
      obtain ⟨i, rfl, hi, hni, hg⟩ := hrel
      by_cases hil : i < l.length
      · have i1 : (i : Int) < (l.length : Int) := by omega
        obtain ⟨b, o, rfl, hat⟩ := HL.out.at i hil
        obtain ⟨vs, x1w, x2w, hws⟩ := hat.grown hg
        obtain ⟨va, vc, rfl⟩ := hws.shape
        obtain ⟨W2, HW2, hg2, B2⟩ := alloc_namedX wr (.cells #[.int .i64 (l.getD i noCmt).turn, .slice va (l.getD i noCmt).writes.length vc] 55)
        have hgw2 := grown_trans hg hg2
        have CC : Hid (Calls Try.prog 27 #[.slice va (l.getD i noCmt).writes.length vc, .func (.func 23) #[] #[.pointer (some ⟨XB, 0, none⟩)]] W2 fun e w'' => e = .returned (.bool ((l.getD i noCmt).writes.any fun q => R.any fun r => touch r q)) ∧ W2.grownBy w'' none) := CF.out W2 _ _ hgw2 (hws.grown hg2) (HFC.out i hil)
        have HA : Hid ((l.take (i + 1)).any (fun c => decide (st < c.turn) && c.writes.any fun w => R.any fun r => touch r w) = ((l.take i).any (fun c => decide (st < c.turn) && c.writes.any fun w => R.any fun r => touch r w) || (decide (st < (l.getD i noCmt).turn) && (l.getD i noCmt).writes.any fun w => R.any fun r => touch r w))) := any_takeS noCmt _ l i hil
        have HH : Hid ((decide (st < (l.getD i noCmt).turn) && (l.getD i noCmt).writes.any fun w => R.any fun r => touch r w) = true → Z = true) := fun h => by
          rw [HZL.out]
          exact any_allT (fun c : Cmt => decide (st < c.turn) && c.writes.any fun w => R.any fun r => touch r w) l noCmt i hil h
        have HNI : Hid ((l.take i).any (fun c => decide (st < c.turn) && c.writes.any fun w => R.any fun r => touch r w) = false) := hni
        obtain ⟨d0, d1, _, _⟩ := pair_room (grown_refl W2 none) B2.out
        obtain ⟨c0, c1, c2⟩ := trip_room hgw2 B1.out
        clear hat hws hni B2
        generalize ((l.getD i noCmt).writes.any fun w => R.any fun r => touch r w) = BW at *
        generalize (l.getD i noCmt).turn = tn at *
        generalize (l.getD i noCmt).writes.length = wn at *
        go_upto_region 8 with fail
        rw [← HW2.out]
        obtain ⟨KB, hKB⟩ : ∃ KB, KB = wr.heap.size := ⟨_, rfl⟩
        rw [← hKB] at d0 d1 ⊢
        clear hKB x1w x2w
        by_cases ht : st < tn
        · have ht' : tn > st := ht
          cases BW with
          | true =>
            have HZ1 : Hid (Z = true) := HH.out (by rw [decide_eq_true ht]; rfl)
            clear HH HA HZL
            go_wp2_with fail
            refine CC.out.mono ?_
            rintro e w3 ⟨rfl, hg3⟩
            go_wp2
            go_ret2
            exact ⟨ret_twoX HZ1.out HZ0.out, grown_trans hg1 (grown_trans hgw2 hg3)⟩
          | false =>
            have HN : Hid ((l.take (i + 1)).any (fun c => decide (st < c.turn) && c.writes.any fun w => R.any fun r => touch r w) = false) := by show _ = _; rw [HA.out, HNI.out]; simp
            clear HH HA
            go_wp2_with fail
            refine CC.out.mono ?_
            rintro e w3 ⟨rfl, hg3⟩
            go_wp2_with fail
            go_roundw
            case rel =>
              first
                | exact ⟨i + 1, by go_num, by omega, HN.out, grown_trans hgw2 hg3⟩
                | ((repeat apply Exists.intro); refine ⟨⟨i + 1, ?_, by omega, HN.out, grown_trans hgw2 hg3⟩, rfl⟩; go_num)
            case measure => simp [intOf]; omega
        · have ht' : ¬ tn > st := ht
          have HN : Hid ((l.take (i + 1)).any (fun c => decide (st < c.turn) && c.writes.any fun w => R.any fun r => touch r w) = false) := by show _ = _; rw [HA.out, HNI.out, decide_eq_false ht]; rfl
          clear HH HA CC
          go_wp2_with fail
          go_roundw
          case rel =>
            first
              | exact ⟨i + 1, by go_num, by omega, HN.out, hgw2⟩
              | ((repeat apply Exists.intro); refine ⟨⟨i + 1, ?_, by omega, HN.out, hgw2⟩, rfl⟩; go_num)
          case measure => simp [intOf]; omega
      · obtain rfl : i = l.length := by omega
        have i1 : ¬ (l.length : Int) < (l.length : Int) := by omega
        rw [List.take_length] at hni
        have HZ1 : Hid (Z = false) := by show _ = _; rw [HZL.out]; exact hni
        clear hni HZL
        go_wp2
        go_ret2
        exact ⟨ret_twoX HZ1.out HZ0.out, grown_trans hg1 hg⟩
  · have HZ0 : Hid (ZE = txE t) := HCE.out
    have HZ1 : Hid (Z = false) := by show _ = _; rw [HZ.out, if_neg h0]
    generalize txE t = z at *
    have h0' : (z != 0) = true := by simpa using h0
    clear h0 HZ HCE CF
    go_enter Try.func9, Try.ntmps9
    go_upto_region 1 with fail
    rw [← HW1.out]
    go_wp2_with fail
    refine TF.out.mono ?_
    rintro e w1 ⟨rfl, hgf⟩
    go_wp2
    go_ret2
    exact ⟨ret_twoX HZ1.out HZ0.out, grown_trans hg1 hgf⟩
end Go.Proofs.Ytpmfbfflacbmjac
