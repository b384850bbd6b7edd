/-
  canopylaw.sameRead and sameTxn, at two that are the same.
-/
import Derived.Test.YtpmfbfflacbmjaaPart18
import Derived.Test.YtpmfbfflacbmjaaPart21
import Derived.Test.YtpmfbfflacbmjaaLSameW
import Derived.Deep.RegionHeld3
namespace Go.Proofs.Ytpmfbfflacbmjaa
open Go.RowKit
set_option maxRecDepth 100000 in
set_option maxHeartbeats 2000000 in
theorem sameRead_same (w : World) (v u : Value) (r : Rd) (hv : ReadIs w v r) (hu : ReadIs w u r) :
    Calls Try.prog 39 #[v, u] w fun e w' => e = .returned (.bool true) ∧ w.grownBy w' none := by
  obtain ⟨na, nc, ka, kc, la, lc, rfl⟩ := hv.agg
  obtain ⟨ma, mc, ja, jc, ha, hc, rfl⟩ := hu.agg
  obtain ⟨v1, v2, _, v3⟩ := hv.parts
  obtain ⟨u1, u2, _, u3⟩ := hu.parts
  obtain ⟨W1, HW1, hg1, B1⟩ := alloc_namedX w (.cells #[.slice na r.name.length nc, .slice ka r.key.length kc, .bool r.wide, .slice la r.last.length lc] 33)
  obtain ⟨W2, HW2, hg2, B2⟩ := alloc_namedX W1 (.cells #[.slice ma r.name.length mc, .slice ja r.key.length jc, .bool r.wide, .slice ha r.last.length hc] 33)
  have hg := grown_trans hg1 hg2
  obtain ⟨⟨a0, a1, a2, a3⟩, _⟩ := quad_room hg2 B1.out
  obtain ⟨⟨b0, b1, b2, b3⟩, _⟩ := quad_room (grown_refl W2 none) B2.out
  have SN : Hid (Calls Try.prog 57 #[.slice na r.name.length nc, .slice ma r.name.length mc] W2 fun e w' => e = .returned (.bool true) ∧ w' = W2) := by
    have := sameBytes_any W2 _ _ _ _ (v1.grown hg) (u1.grown hg)
    rw [decide_eq_true rfl] at this
    exact this
  have SK : Hid (Calls Try.prog 57 #[.slice ka r.key.length kc, .slice ja r.key.length jc] W2 fun e w' => e = .returned (.bool true) ∧ w' = W2) := by
    have := sameBytes_any W2 _ _ _ _ (v2.grown hg) (u2.grown hg)
    rw [decide_eq_true rfl] at this
    exact this
  have SL : Hid (Calls Try.prog 57 #[.slice la r.last.length lc, .slice ha r.last.length hc] W2 fun e w' => e = .returned (.bool true) ∧ w' = W2) := by
    have := sameBytes_any W2 _ _ _ _ (v3.grown hg) (u3.grown hg)
    rw [decide_eq_true rfl] at this
    exact this
  have HX : Hid (W2 = (w.alloc (.cells #[.slice na r.name.length nc, .slice ka r.key.length kc, .bool r.wide, .slice la r.last.length lc] 33)).alloc (.cells #[.slice ma r.name.length mc, .slice ja r.key.length jc, .bool r.wide, .slice ha r.last.length hc] 33)) := by show _ = _; rw [HW2.out, HW1.out]
  have hsz : W1.heap.size = w.heap.size + 1 := by rw [HW1.out]; simp
  rw [hsz] at b0 b1 b2 b3
  have hwd : (r.wide == r.wide) = true := by simp
  clear hv hu v1 v2 v3 u1 u2 u3 hsz B1 B2 HW1 HW2
  generalize r.wide = wd at *
  go_enter Try.func39, Try.ntmps39
  go_upto_region 1 with fail
  rw [← HX.out]
  go_wp2_with fail
  refine SN.out.mono ?_
  rintro e w1 ⟨rfl, rfl⟩
  go_wp2_with fail
  refine SK.out.mono ?_
  rintro e w1 ⟨rfl, rfl⟩
  go_wp2_with fail
  refine SL.out.mono ?_
  rintro e w1 ⟨rfl, rfl⟩
  go_wp2
  go_ret
  exact ⟨rfl, hg⟩
set_option maxRecDepth 100000 in
set_option maxHeartbeats 4000000 in
theorem sameTxn_same (w : World) (v u : Value) (t : Tx) (hv : TxIs w v t) (hu : TxIs w u t) (hf : FitsX t) :
    Calls Try.prog 12 #[v, u] w fun e w' => e = .returned (.bool true) ∧ w.grownBy w' none := by
  obtain ⟨ra, rc, wa, wc, rfl⟩ := hv.agg
  obtain ⟨sa, sc, xa, xc, rfl⟩ := hu.agg
  obtain ⟨_, hr, hw⟩ := hv.parts
  obtain ⟨_, hs, hx⟩ := hu.parts
  obtain ⟨W1, HW1, hg1, B1⟩ := alloc_namedX w (.cells #[.int .i64 t.start, .slice ra t.reads.length rc, .slice wa t.writes.length wc] 25)
  obtain ⟨W2, HW2, hg2, B2⟩ := alloc_namedX W1 (.cells #[.int .i64 t.start, .slice sa t.reads.length sc, .slice xa t.writes.length xc] 25)
  have hg := grown_trans hg1 hg2
  have hsz : W1.heap.size = w.heap.size + 1 := by rw [HW1.out]; simp
  rw [hsz] at B2
  have I2 : Hid (W2.heap[w.heap.size]? = some (.cells #[.int .i64 t.start, .slice ra t.reads.length rc, .slice wa t.writes.length wc] 25)) := pair_old hg2 B1.out
  obtain ⟨a0, a1, a2⟩ := trip_room (grown_refl W2 none) I2.out
  obtain ⟨b0, b1, b2⟩ := trip_room (grown_refl W2 none) B2.out
  have HX : Hid (W2 = (w.alloc (.cells #[.int .i64 t.start, .slice ra t.reads.length rc, .slice wa t.writes.length wc] 25)).alloc (.cells #[.int .i64 t.start, .slice sa t.reads.length sc, .slice xa t.writes.length xc] 25)) := by show _ = _; rw [HW2.out, HW1.out]
  have SW : Hid (Calls Try.prog 38 #[.slice wa t.writes.length wc, .slice xa t.writes.length xc] W2 fun e w' => e = .returned (.bool true) ∧ W2.grownBy w' none) := sameWrites_same W2 _ _ t.writes (hw.grown hg) (hx.grown hg) hf.writes
  have HR : Hid (ReadsIs W2 (.slice ra t.reads.length rc) t.reads) := hr.grown hg
  have HS : Hid (ReadsIs W2 (.slice sa t.reads.length sc) t.reads) := hs.grown hg
  have hrl := hf.reads.many
  clear hv hu hr hw hs hx hf hsz B1 HW1 HW2
  generalize t.writes.length = wl at *
  generalize t.reads = R at *
  generalize t.start = st at *
  have q1 : (st != st) = false := by simp
  have q2 : ((R.length : Int) != (R.length : Int)) = false := by simp
  go_enter Try.func12, Try.ntmps12
  go_upto_region 1 with fail
  rw [← HX.out]
  obtain ⟨JB, hJB⟩ : ∃ JB, JB = w.heap.size + 1 := ⟨_, rfl⟩
  obtain ⟨IB, hIB⟩ : ∃ IB, IB = w.heap.size := ⟨_, rfl⟩
  rw [← hJB] at B2 b0 b1 b2 ⊢
  rw [← hIB] at I2 a0 a1 a2 ⊢
  clear hJB hIB HX
  go_wp2_with fail
  refine SW.out.mono ?_
  rintro e w3 ⟨rfl, hg3⟩
  go_wp2_with fail
  clear a0 a1 a2 b0 b1 b2
  go_loopw [5] (fun s5 wr => ∃ m : Nat, s5 = .int .i64 (m : Int) ∧ m ≤ R.length ∧ W2.grownBy wr none) (fun s5 _ => R.length - (intOf s5).toNat)
  case atStart => exact ⟨0, rfl, by omega, hg3⟩
  case round =>
    obtain ⟨m, rfl, hm, hgr⟩ := hrel
    obtain ⟨a0, a1, a2⟩ := trip_room hgr I2.out
    obtain ⟨b0, b1, b2⟩ := trip_room hgr B2.out
    by_cases hlt : m < R.length
    · have i1 : (m : Int) < (R.length : Int) := by omega
      obtain ⟨b, o, rfl, y1, y2, y3, y4, y5, y6, ⟨x1w, x2w, x3w, x4w⟩, hrd⟩ := reads_cells HR.out m hlt
      obtain ⟨c, p, rfl, z1, z2, z3, z4, z5, z6, ⟨v1w, v2w, v3w, v4w⟩, hsd⟩ := reads_cells HS.out m hlt
      have x1 := hgr.cell x1w (by simp)
      have x2 := hgr.cell x2w (by simp)
      have x3 := hgr.cell x3w (by simp)
      have x4 := hgr.cell x4w (by simp)
      have v1 := hgr.cell v1w (by simp)
      have v2 := hgr.cell v2w (by simp)
      have v3 := hgr.cell v3w (by simp)
      have v4 := hgr.cell v4w (by simp)
      have SR : Hid (∀ w', W2.grownBy w' none → Calls Try.prog 39 #[.agg #[.slice y1 (R.getD m noRd).name.length y2, .slice y3 (R.getD m noRd).key.length y4, .bool (R.getD m noRd).wide, .slice y5 (R.getD m noRd).last.length y6], .agg #[.slice z1 (R.getD m noRd).name.length z2, .slice z3 (R.getD m noRd).key.length z4, .bool (R.getD m noRd).wide, .slice z5 (R.getD m noRd).last.length z6]] w' fun e w'' => e = .returned (.bool true) ∧ w'.grownBy w'' none) := fun w' h => sameRead_same w' _ _ _ (hrd.grown h) (hsd.grown h)
      generalize (R.getD m noRd).name.length = n1 at *
      generalize (R.getD m noRd).key.length = n2 at *
      generalize (R.getD m noRd).last.length = n3 at *
      generalize (R.getD m noRd).wide = wd at *
      clear x1w x2w x3w x4w v1w v2w v3w v4w hrd hsd
      go_wp2_with fail
      have hgd : wr.grownBy wr.drew none := grown_drew (grown_refl _ _)
      have m1 := hgd.cell a1 (by simp)
      have m2 := hgd.cell b1 (by simp)
      have e1 := hgd.cell x1 (by simp)
      have e2 := hgd.cell x2 (by simp)
      have e3 := hgd.cell x3 (by simp)
      have e4 := hgd.cell x4 (by simp)
      have f1 := hgd.cell v1 (by simp)
      have f2 := hgd.cell v2 (by simp)
      have f3 := hgd.cell v3 (by simp)
      have f4 := hgd.cell v4 (by simp)
      go_region_held3 (fun w' => w'.cell? ⟨IB, 1, none⟩ = some (.slice (some ⟨b, o, none⟩) R.length rc) ∧ w'.cell? ⟨JB, 1, none⟩ = some (.slice (some ⟨c, p, none⟩) R.length sc) ∧ w'.cell? ⟨b, o + m * 4, none⟩ = some (.slice y1 n1 y2) ∧ w'.cell? ⟨b, o + m * 4 + 1, none⟩ = some (.slice y3 n2 y4) ∧ w'.cell? ⟨b, o + m * 4 + 2, none⟩ = some (.bool wd) ∧ w'.cell? ⟨b, o + m * 4 + 3, none⟩ = some (.slice y5 n3 y6) ∧ w'.cell? ⟨c, p + m * 4, none⟩ = some (.slice z1 n1 z2) ∧ w'.cell? ⟨c, p + m * 4 + 1, none⟩ = some (.slice z3 n2 z4) ∧ w'.cell? ⟨c, p + m * 4 + 2, none⟩ = some (.bool wd) ∧ w'.cell? ⟨c, p + m * 4 + 3, none⟩ = some (.slice z5 n3 z6))
        (first | exact ⟨m1, m2, e1, e2, e3, e4, f1, f2, f3, f4⟩ | exact ⟨hg4.cell m1 (by simp), hg4.cell m2 (by simp), hg4.cell e1 (by simp), hg4.cell e2 (by simp), hg4.cell e3 (by simp), hg4.cell e4 (by simp), hg4.cell f1 (by simp), hg4.cell f2 (by simp), hg4.cell f3 (by simp), hg4.cell f4 (by simp)⟩)
        (first
          | (go_at_call 39; refine (SR.out _ (grown_trans hgr hgd)).mono ?_; rintro e w4 ⟨rfl, hg4⟩))
      have hgw4 := grown_trans hgr (grown_trans hgd hg4)
      clear m1 m2 e1 e2 e3 e4 f1 f2 f3 f4 x1 x2 x3 x4 v1 v2 v3 v4 a0 a1 a2 b0 b1 b2 SR
      go_wp2_with fail
      go_roundw
      case rel =>
        first
          | exact ⟨m + 1, by go_num, by omega, hgw4⟩
          | ((repeat apply Exists.intro); refine ⟨⟨m + 1, ?_, by omega, hgw4⟩, rfl⟩; go_num)
      case measure => simp [intOf]; omega
    · obtain rfl : m = R.length := by omega
      have i1 : ¬ (R.length : Int) < (R.length : Int) := by omega
      go_wp2
      go_ret
      exact ⟨rfl, grown_trans hg hgr⟩
end Go.Proofs.Ytpmfbfflacbmjaa
