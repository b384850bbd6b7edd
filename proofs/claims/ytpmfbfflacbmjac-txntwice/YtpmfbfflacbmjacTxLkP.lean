/-
  txn.Look, as it landed, keeps P8.5.
-/
import Derived.Test.YtpmfbfflacbmjacPart7
import Derived.Test.YtpmfbfflacbmjacTxBoth
import Derived.Test.YtpmfbfflacbmjacPart2
import Derived.Test.YtpmfbfflacbmjacFGetP
import Derived.Test.YtpmfbfflacbmjacCloneP
import Derived.Test.YtpmfbfflacbmjacPart3
import Derived.Deep.RegionHeld3
namespace Go.Proofs.Ytpmfbfflacbmjac
open Go.RowKit
theorem ret_look {x : Value} {a b : Bool} {c d : Bool} {e f : Int} (h1 : a = b) (h2 : c = d) (h3 : e = f) : Ending.returned (Value.tuple #[.agg #[.bool b, x], .bool d, .int .i64 f]) = Ending.returned (Value.tuple #[.agg #[.bool a, x], .bool c, .int .i64 e]) := by rw [h1, h2, h3]
set_option maxRecDepth 100000 in
set_option maxHeartbeats 4000000 in
theorem txlook_ok : TxLookOK := by
  intro w v u a b l t n k hv hl hu hf ha hb hn hk
  obtain ⟨la, lc, rfl⟩ := hv.shape
  obtain ⟨ra, rc, wa, wc, rfl⟩ := hu.agg
  obtain ⟨na, nc, rfl⟩ := ha.shape
  obtain ⟨ka, kc, rfl⟩ := hb.shape
  obtain ⟨_, _, hws⟩ := hu.parts
  obtain ⟨W1, HW1, hg1, B1⟩ := alloc_namedX w (.cells #[.int .i64 t.start, .slice ra t.reads.length rc, .slice wa t.writes.length wc] 28)
  obtain ⟨W2, HW2, hg2, B2⟩ := alloc_namedX W1 (.cells #[.bool false, .slice none 0 0] 46)
  have s1 : W1.heap.size = w.heap.size + 1 := by rw [HW1.out]; simp
  rw [s1] at B2
  have hg02 := grown_trans hg1 hg2
  have HX : Hid (W2 = (w.alloc (.cells #[.int .i64 t.start, .slice ra t.reads.length rc, .slice wa t.writes.length wc] 28)).alloc (.cells #[.bool false, .slice none 0 0] 46)) := by show _ = _; rw [HW2.out, HW1.out]
  have I2 : Hid (W2.heap[w.heap.size]? = some (.cells #[.int .i64 t.start, .slice ra t.reads.length rc, .slice wa t.writes.length wc] 28)) := pair_old hg2 B1.out
  have HWS : Hid (WritesIs W2 (.slice wa t.writes.length wc) t.writes) := hws.grown hg02
  have hwl := hf.writes.many
  have HFW : Hid (∀ i, i < t.writes.length → PlcFits (t.writes.getD i noPlc)) := hf.writes.each
  have CB : Hid (Calls Try.prog 42 #[.slice la l.length lc, .agg #[.int .i64 t.start, .slice ra t.reads.length rc, .slice wa t.writes.length wc]] W2 fun e w' => e = .returned (.int .i64 (ftE l t)) ∧ W2.grownBy w' none) := checkBoth_any W2 _ _ l t (hv.grown hg02) hl (hu.grown hg02) hf
  have FD : Hid (∀ w', W2.grownBy w' none → Calls Try.prog 43 #[.slice wa t.writes.length wc, .slice na n.length nc, .slice ka k.length kc] w' fun e w'' => e = .returned (.int .i64 (firstP (atPl n k) t.writes)) ∧ w'.grownBy w'' none) := fun w' h => findWrite_any w' _ _ _ _ n k (HWS.out.grown h) (by omega) (ha.grown (grown_trans hg02 h)) (hb.grown (grown_trans hg02 h))
  have FG : Hid (∀ w', W2.grownBy w' none → Calls Try.prog 13 #[.slice la l.length lc, .slice na n.length nc, .slice ka k.length kc] w' fun e w'' => ∃ x, e = .returned (.tuple #[.agg #[.bool (fgetB l n k), x], .int .i64 (fgetE l n k)]) ∧ SliceIs w'' x (fgetV l n k) ∧ w'.grownBy w'' none) := fun w' h => fget_ok' w' _ _ _ l n k (hv.grown (grown_trans hg02 h)) (ha.grown (grown_trans hg02 h)) (hb.grown (grown_trans hg02 h)) hl hn hk
  have HF1 : Hid (t.writes.any (atPl n k) = false → firstP (atPl n k) t.writes = -1) := firstP_none _ _
  have HF2 : Hid (t.writes.any (atPl n k) = true → ∃ m, m < t.writes.length ∧ (t.writes.take m).any (atPl n k) = false ∧ atPl n k (t.writes.getD m noPlc) = true ∧ firstP (atPl n k) t.writes = (m : Int)) := firstP_some _ noPlc _
  have HB1 : Hid (ftE l t ≠ 0 → lookE l t n k = ftE l t ∧ lookO l t n k = false ∧ lookB l t n k = false ∧ lookV l t n k = []) := fun h => by
    have e := look_ft (n := n) (k := k) h
    have h2 := look_bad (l := l) (t := t) (n := n) (k := k) (by rw [e]; exact h)
    exact ⟨e, h2⟩
  have HB2 : Hid (ftE l t = 0 → ∀ m, m < t.writes.length → (t.writes.take m).any (atPl n k) = false → atPl n k (t.writes.getD m noPlc) = true → lookE l t n k = 0 ∧ lookO l t n k = true ∧ lookB l t n k = !(t.writes.getD m noPlc).gone ∧ lookV l t n k = (t.writes.getD m noPlc).value) := fun h m h1 h2 h3 => look_hit h h1 h2 h3
  have HB3 : Hid (ftE l t = 0 → t.writes.any (atPl n k) = false → lookE l t n k = fgetE l n k ∧ lookO l t n k = false ∧ lookB l t n k = fgetB l n k ∧ lookV l t n k = fgetV l n k) := fun h h1 => look_get h h1
  generalize firstP (atPl n k) t.writes = FI at *
  generalize lookE l t n k = ZE at *
  generalize lookO l t n k = ZO at *
  generalize lookB l t n k = ZB at *
  generalize lookV l t n k = ZV at *
  generalize fgetE l n k = GE at *
  generalize fgetB l n k = GB at *
  generalize fgetV l n k = GV at *
  clear hv hl hu hf ha hb hws B1 HW1 HW2 s1
  generalize t.start = st at *
  generalize t.reads.length = rl at *
  generalize t.writes = V at *
  go_enter Try.func19, Try.ntmps19
  go_upto_region 1 with fail
  rw [← HX.out]
  obtain ⟨FB, hFB⟩ : ∃ FB, FB = w.heap.size + 1 := ⟨_, rfl⟩
  obtain ⟨IB, hIB⟩ : ∃ IB, IB = w.heap.size := ⟨_, rfl⟩
  have wFB : w.heap.size ≤ FB := by omega
  rw [← hFB] at B2 ⊢
  rw [← hIB] at I2 ⊢
  clear hFB hIB HX
  obtain ⟨⟨c0, c1, c2⟩, _⟩ := trip_room2 I2.out
  go_wp2_with fail
  refine CB.out.mono ?_
  rintro e w3 ⟨rfl, hg3⟩
  clear c0 c1 c2
  by_cases h0 : ftE l t = 0
  · rw [h0]
    have HC2 : Hid (∀ m, m < V.length → (V.take m).any (atPl n k) = false → atPl n k (V.getD m noPlc) = true → ZE = 0 ∧ ZO = true ∧ ZB = !(V.getD m noPlc).gone ∧ ZV = (V.getD m noPlc).value) := HB2.out h0
    have HC3 : Hid (V.any (atPl n k) = false → ZE = GE ∧ ZO = false ∧ ZB = GB ∧ ZV = GV) := HB3.out h0
    clear HB1 HB2 HB3 h0 CB
    obtain ⟨c0, c1, c2⟩ := trip_room hg3 I2.out
    go_wp2_with fail
    refine (FD.out _ hg3).mono ?_
    rintro e w4 ⟨rfl, hg4⟩
    have hg34 := grown_trans hg3 hg4
    clear c0 c1 c2 FD
    cases hAN : V.any (atPl n k) with
    | true =>
      obtain ⟨m, hlt, h1, h2, hFm⟩ := HF2.out hAN
      obtain ⟨e1, e2, e3, e4⟩ := HC2.out m hlt h1 h2
      have HE1 : Hid (ZE = 0) := e1
      have HE2 : Hid (ZO = true) := e2
      have HE3 : Hid (ZB = !(V.getD m noPlc).gone) := e3
      have HE4 : Hid (ZV = (V.getD m noPlc).value) := e4
      have hft := HFW.out m hlt
      rw [hFm]
      have hF : ((m : Int) != -1) = true := by simp
      have i1 : (m : Int) < (V.length : Int) := by omega
      obtain ⟨b, o, rfl, y1, y2, y3, y4, y5, y6, ⟨x1w, x2w, x3w, x4w⟩, hrd⟩ := writes_cells HWS.out m hlt
      have z1 := hg34.cell x1w (by simp)
      have z2 := hg34.cell x2w (by simp)
      have z3 := hg34.cell x3w (by simp)
      have z4 := hg34.cell x4w (by simp)
      obtain ⟨W5, HW5, hg5, B5⟩ := alloc_namedX w4 (.cells #[.slice y1 (V.getD m noPlc).name.length y2, .slice y3 (V.getD m noPlc).key.length y4, .bool (V.getD m noPlc).gone, .slice y5 (V.getD m noPlc).value.length y6] 53)
      have hg25 := grown_trans hg34 hg5
      obtain ⟨x1, x2, x3, ex, v1, v2, v3⟩ := hrd
      simp only [Value.agg.injEq, Array.mk.injEq, List.cons.injEq, and_true] at ex
      obtain ⟨rfl, rfl, _, rfl⟩ := ex
      have CL : Hid (∀ w', W5.grownBy w' none → Calls Try.prog 44 #[.slice y5 (V.getD m noPlc).value.length y6] w' fun e w'' => ∃ v', e = .returned v' ∧ Own w'.heap.size w'' v' (V.getD m noPlc).value ∧ w'.grownBy w'' none) := fun w' h => clone_any w' _ _ (v3.grown (grown_trans hg25 h)) hft.2.2
      have F5 : Hid (W5.heap[FB]? = some (.cells #[.bool false, .slice none 0 0] 46)) := pair_old hg25 B2.out
      have hne : w4.heap.size ≠ FB := by
        have := (Array.getElem?_eq_some_iff.1 (pair_old hg34 B2.out)).1
        omega
      obtain ⟨⟨q0, q1, q2, q3⟩, _⟩ := quad_room (grown_refl W5 none) B5.out
      obtain ⟨c0, c1, c2⟩ := trip_room hg34 I2.out
      clear e1 e2 e3 e4 HC2 HC3 HF1 HF2 FG hAN h1 h2 hFm v1 v2 v3 x1w x2w x3w x4w hft
      generalize V.getD m noPlc = P at *
      go_upto_region 7 with fail
      rw [← HW5.out]
      obtain ⟨YB, hYB⟩ : ∃ YB, YB = w4.heap.size := ⟨_, rfl⟩
      rw [← hYB] at q0 q1 q2 q3 hne ⊢
      clear hYB z1 z2 z3 z4 c0 c1 c2 B5 HW5
      have hgd : W5.grownBy W5.drew none := grown_drew (grown_refl _ _)
      have e2 := hgd.cell q2 (by simp)
      have e3 := hgd.cell q3 (by simp)
      go_region_held3 (fun w' => w'.cell? ⟨YB, 2, none⟩ = some (.bool P.gone) ∧ w'.cell? ⟨YB, 3, none⟩ = some (.slice y5 P.value.length y6))
        (first | with_reducible exact ⟨e2, e3⟩ | with_reducible exact ⟨f2, f3⟩ | (refine ⟨?_, ?_⟩ <;> (rw [World.cell?_setCell_other _ _ _ _ (by intro e; injection e with e1 e2; omega), World.cell?_setCell_other _ _ _ _ (by intro e; injection e with e1 e2; omega)]; assumption)))
        (first
          | (go_at_call 44; refine (CL.out _ hgd).mono ?_; rintro e w6 ⟨v6, rfl, ho6, hg6⟩; obtain ⟨xa, xc, rfl⟩ := ho6.shape; have hgd6 := grown_trans hgd hg6; have f2 := hg6.cell e2 (by simp); have f3 := hg6.cell e3 (by simp)
             have hR := pair_old hgd6 F5.out
             obtain ⟨k0, k1, k2, k3⟩ := two_cells' hR
             have HR : Hid (w6.heap[FB]? = some (.cells #[.bool false, .slice none 0 0] 46)) := hR
             have HS6 : Hid (SliceIs w6 (.slice xa P.value.length xc) P.value) := (ho6.part (base := 0)).slice
             clear hR ho6))
      all_goals (
        obtain ⟨cC, cD⟩ := pair_set (grown_refl w6 none) HR.out (.bool (!P.gone)) (.slice xa P.value.length xc)
        have HSS : Hid (SliceIs ((w6.setCell ⟨FB, 0, none⟩ (.bool (!P.gone))).setCell ⟨FB, 1, none⟩ (.slice xa P.value.length xc)) (.slice xa P.value.length xc) P.value) := HS6.out.findS HR.out _ _
        have hgq := grown_setNew (grown_setNew (grown_trans hg02 (grown_trans hg25 hgd6)) FB wFB 0 (.bool (!P.gone))) FB wFB 1 (.slice xa P.value.length xc)
        go_wp2
        refine bodyPost_ret (v := .tuple #[.agg #[.bool (!P.gone), .slice xa P.value.length xc], .bool true, .int .i64 0]) (by simp [results, Try.results19, go_sem, cC, cD]) rfl ?_
        exact ⟨_, ret_look HE3.out HE2.out HE1.out, by rw [HE4.out]; exact HSS.out, hgq⟩)
    | false =>
      have hFm := HF1.out hAN
      obtain ⟨e1, e2, e3, e4⟩ := HC3.out hAN
      have HE1 : Hid (ZE = GE) := e1
      have HE2 : Hid (ZO = false) := e2
      have HE3 : Hid (ZB = GB) := e3
      have HE4 : Hid (ZV = GV) := e4
      rw [hFm]
      clear e1 e2 e3 e4 HC2 HC3 HF1 HF2 hAN hFm
      go_wp2_with fail
      refine (FG.out _ hg34).mono ?_
      rintro e w5 ⟨x, rfl, hx, hg5⟩
      obtain ⟨xa, xc, rfl⟩ := hx.shape
      obtain ⟨W6, HW6, hg6, B6⟩ := alloc_namedX w5 (.cells #[.bool GB, .slice xa GV.length xc] 46)
      have hg26 := grown_trans hg34 (grown_trans hg5 hg6)
      have HR := pair_old hg26 B2.out
      obtain ⟨k0, k1, k2, k3⟩ := two_cells' HR
      obtain ⟨d0, d1, _, _⟩ := two_cells' B6.out
      obtain ⟨cC, cD⟩ := pair_set (grown_refl W6 none) HR (.bool GB) (.slice xa GV.length xc)
      have HSS : Hid (SliceIs ((W6.setCell ⟨FB, 0, none⟩ (.bool GB)).setCell ⟨FB, 1, none⟩ (.slice xa GV.length xc)) (.slice xa GV.length xc) GV) := (hx.grown hg6).findS HR _ _
      have hgq := grown_setNew (grown_setNew (grown_trans hg02 hg26) FB wFB 0 (.bool GB)) FB wFB 1 (.slice xa GV.length xc)
      clear hx HR
      go_upto_region 9 with fail
      rw [← HW6.out]
      go_wp2
      refine bodyPost_ret (v := .tuple #[.agg #[.bool GB, .slice xa GV.length xc], .bool false, .int .i64 GE]) (by simp [results, Try.results19, go_sem, cC, cD]) rfl ?_
      exact ⟨_, ret_look HE3.out HE2.out HE1.out, by rw [HE4.out]; exact HSS.out, hgq⟩
  · obtain ⟨e1, e2, e3, e4⟩ := HB1.out h0
    have HE1 : Hid (ZE = ftE l t) := e1
    have HE2 : Hid (ZO = false) := e2
    have HE3 : Hid (ZB = false) := e3
    have HE4 : Hid (ZV = []) := e4
    generalize ftE l t = z at *
    have h0' : (z != 0) = true := by simpa using h0
    have HR := pair_old hg3 B2.out
    obtain ⟨k0, k1, k2, k3⟩ := two_cells' HR
    obtain ⟨cC, cD⟩ := pair_set (grown_refl w3 none) HR (.bool false) (.slice none 0 0)
    have hgq := grown_setNew (grown_setNew (grown_trans hg02 hg3) FB wFB 0 (.bool false)) FB wFB 1 (.slice none 0 0)
    clear e1 e2 e3 e4 h0 HR HB1 HB2 HB3
    go_wp2
    refine bodyPost_ret (v := .tuple #[.agg #[.bool false, .slice none 0 0], .bool false, .int .i64 z]) (by simp [results, Try.results19, go_sem, cC, cD]) rfl ?_
    exact ⟨_, ret_look HE3.out HE2.out HE1.out, by rw [HE4.out]; exact sliceIs_nil _, hgq⟩
end Go.Proofs.Ytpmfbfflacbmjac
