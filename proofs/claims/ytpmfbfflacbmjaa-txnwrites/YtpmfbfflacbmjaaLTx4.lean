/-
  The walk of canopylaw.TxnWrites, over what the code must keep.
-/
import Derived.Test.YtpmfbfflacbmjaaPart2
import Derived.Test.YtpmfbfflacbmjaaRTx8
import Derived.Test.YtpmfbfflacbmjaaLSameTx
namespace Go.Proofs.Ytpmfbfflacbmjaa
open Go.RowKit
theorem own_tx4 {rb rb' : Nat} {w : World} {ra wa : Option Addr} {rc wd : Nat} {t : Tx} (h1 : OwnR rb 0 w (.slice ra t.reads.length rc) t.reads) (h2 : OwnV rb' 0 w (.slice wa t.writes.length wd) t.writes) : TxIs w (.agg #[.int .i64 t.start, .slice ra t.reads.length rc, .slice wa t.writes.length wd]) t := ⟨_, _, rfl, h1.list, h2.list⟩
theorem cell_lt4 {w : World} {b o : Nat} {v : Value} (h : w.cell? ⟨b, o, none⟩ = some v) : b < w.heap.size := by
  rcases Nat.lt_or_ge b w.heap.size with h' | h'
  · exact h'
  · simp [World.cell?, Array.getElem?_eq_none h'] at h
theorem own_wr4 {w : World} {x1 x3 x5 : Option Addr} {x2 x4 x6 : Nat} {r : Plc} (h1 : PartIs 0 w (.slice x1 r.name.length x2) r.name) (h2 : PartIs 0 w (.slice x3 r.key.length x4) r.key) (h3 : PartIs 0 w (.slice x5 r.value.length x6) r.value) : WriteIs w (.agg #[.slice x1 r.name.length x2, .slice x3 r.key.length x4, .bool r.gone, .slice x5 r.value.length x6]) r := ⟨_, _, _, rfl, h1.slice, h2.slice, h3.slice⟩
set_option maxRecDepth 100000 in
set_option maxHeartbeats 2000000 in
theorem txnWrites_walk (hC : TxWriteOK) (w : World) (v u : Value) (t : Tx) (r : Plc) (hv : TxIs w v t) (hf : FitsX t) (hu : WriteIs w u r) (hr : PlcFits r) :
    Calls Try.prog 5 #[v, u] w fun e w' => e = .returned (.bool true) ∧ w.grownBy w' none := by
  obtain ⟨ra, rc, wa, wd, rfl⟩ := hv.agg
  obtain ⟨na, nc, ka, kc, la, lc, rfl⟩ := hu.aggW
  obtain ⟨W1, HW1, hg1, B1⟩ := alloc_namedX w (.cells #[.int .i64 t.start, .slice ra t.reads.length rc, .slice wa t.writes.length wd] 25)
  obtain ⟨W2, HW2, hg2, B2⟩ := alloc_namedX W1 (.cells #[.slice na r.name.length nc, .slice ka r.key.length kc, .bool r.gone, .slice la r.value.length lc] 39)
  have s1 : W1.heap.size = w.heap.size + 1 := by rw [HW1.out]; simp
  rw [s1] at B2
  have hg02 := grown_trans hg1 hg2
  have B12 : Hid (W2.heap[w.heap.size]? = some (.cells #[.int .i64 t.start, .slice ra t.reads.length rc, .slice wa t.writes.length wd] 25)) := pair_old hg2 B1.out
  have HX : Hid (W2 = (w.alloc (.cells #[.int .i64 t.start, .slice ra t.reads.length rc, .slice wa t.writes.length wd] 25)).alloc (.cells #[.slice na r.name.length nc, .slice ka r.key.length kc, .bool r.gone, .slice la r.value.length lc] 39)) := by show _ = _; rw [HW2.out, HW1.out]
  have HV : Hid (TxIs W2 (.agg #[.int .i64 t.start, .slice ra t.reads.length rc, .slice wa t.writes.length wd]) t) := hv.grown hg02
  have HU : Hid (WriteIs W2 (.agg #[.slice na r.name.length nc, .slice ka r.key.length kc, .bool r.gone, .slice la r.value.length lc]) r) := hu.grown hg02
  have CP : Hid (Calls Try.prog 9 #[.agg #[.int .i64 t.start, .slice ra t.reads.length rc, .slice wa t.writes.length wd]] W2 fun e w' => ∃ ra' rc' wa' wc', e = .returned (.agg #[.int .i64 t.start, .slice ra' t.reads.length rc', .slice wa' t.writes.length wc']) ∧ TxIs w' (.agg #[.int .i64 t.start, .slice ra' t.reads.length rc', .slice wa' t.writes.length wc']) t ∧ W2.grownBy w' none) := by
    refine (txnCopy_any W2 _ t HV.out hf).mono ?_
    rintro e w' ⟨r1, r2, r3, r4, rfl, h1, h2, hg⟩
    exact ⟨r1, r2, r3, r4, rfl, own_tx4 h1 h2, hg⟩
  have RC : Hid (∀ w', W2.grownBy w' none → Calls Try.prog 17 #[.agg #[.slice na r.name.length nc, .slice ka r.key.length kc, .bool r.gone, .slice la r.value.length lc]] w' fun e w'' => ∃ x, e = .returned x ∧ WriteIs w'' x r ∧ w'.grownBy w'' none) := fun w' h => by
    refine (writeCopyT_any w' _ r (HU.out.grown h) hr).mono ?_
    rintro e w'' ⟨x1, x2, x3, x4, x5, x6, rfl, p1, p2, p3, hg⟩
    exact ⟨_, rfl, own_wr4 p1 p2 p3, hg⟩
  have NT : Hid (∀ w' x y, TxIs w' x t → WriteIs w' y r → Calls Try.prog 16 #[x, y] w' fun e w'' => ∃ a1 a2 a3 a4, e = .returned (.tuple #[.agg #[.int .i64 (twriteT t r).start, .slice a1 (twriteT t r).reads.length a2, .slice a3 (twriteT t r).writes.length a4], .int .i64 (twriteE t r)]) ∧ TxIs w'' (.agg #[.int .i64 (twriteT t r).start, .slice a1 (twriteT t r).reads.length a2, .slice a3 (twriteT t r).writes.length a4]) (twriteT t r) ∧ w'.grownBy w'' none) := fun w' x y h1 h2 => by
    refine (hC w' x y t r h1 hf h2 hr).mono ?_
    rintro e w'' ⟨x, rfl, hx, hg⟩
    obtain ⟨a1, a2, a3, a4, rfl⟩ := hx.agg
    exact ⟨a1, a2, a3, a4, rfl, hx, hg⟩
  have NR : Hid (∀ w' x y, TxIs w' x t → WriteIs w' y r → Calls Try.prog 18 #[x, y] w' fun e w'' => ∃ a1 a2 a3 a4, e = .returned (.tuple #[.agg #[.int .i64 (twriteT t r).start, .slice a1 (twriteT t r).reads.length a2, .slice a3 (twriteT t r).writes.length a4], .int .i64 (twriteE t r)]) ∧ TxIs w'' (.agg #[.int .i64 (twriteT t r).start, .slice a1 (twriteT t r).reads.length a2, .slice a3 (twriteT t r).writes.length a4]) (twriteT t r) ∧ w'.grownBy w'' none) := fun w' x y h1 h2 => by
    refine (writtenTo_any w' x y t r h1 hf h2 hr).mono ?_
    rintro e w'' ⟨x, rfl, hx, hg⟩
    obtain ⟨a1, a2, a3, a4, rfl⟩ := hx.agg
    exact ⟨a1, a2, a3, a4, rfl, hx, hg⟩
  have ST : Hid (∀ w' u x, TxIs w' u t → TxIs w' x t → Calls Try.prog 12 #[u, x] w' fun e w'' => e = .returned (.bool true) ∧ w'.grownBy w'' none) := fun w' u x h1 h2 => sameTxn_same w' u x t h1 h2 hf
  have hnf := twrite_fits hf hr
  have SN : Hid (∀ w' u x, TxIs w' u (twriteT t r) → TxIs w' x (twriteT t r) → Calls Try.prog 12 #[u, x] w' fun e w'' => e = .returned (.bool true) ∧ w'.grownBy w'' none) := fun w' u x h1 h2 => sameTxn_same w' u x _ h1 h2 hnf
  clear hv hf hC hu hr hnf s1 B1 HW1 HW2
  generalize twriteE t r = z at *
  generalize twriteT t r = T at *
  generalize t.reads.length = rl at *
  generalize t.writes.length = wl at *
  generalize t.start = st at *
  have hzz : (z == z) = true := by simp
  go_enter Try.func5, Try.ntmps5
  go_upto_region 1 with fail
  rw [← HX.out]
  obtain ⟨QB, hQB⟩ : ∃ QB, QB = w.heap.size + 1 := ⟨_, rfl⟩
  obtain ⟨IB, hIB⟩ : ∃ IB, IB = w.heap.size := ⟨_, rfl⟩
  rw [← hQB] at B2 ⊢
  rw [← hIB] at B12 ⊢
  clear hIB hQB HX
  obtain ⟨a0, a1, a2⟩ := trip_room (grown_refl W2 none) B12.out
  go_wp2_with fail
  refine CP.out.mono ?_
  rintro e w2 ⟨r1, r2, r3, r4, rfl, h2, hg3⟩
  obtain ⟨W3, HW3, hg4, B3⟩ := alloc_namedX w2 (.cells #[.int .i64 st, .slice r1 rl r2, .slice r3 wl r4] 25)
  have H3 : Hid (TxIs W3 (.agg #[.int .i64 st, .slice r1 rl r2, .slice r3 wl r4]) t) := h2.grown hg4
  have hg23 := grown_trans hg3 hg4
  clear h2 a0 a1 a2
  go_upto_region 2 with fail
  rw [← HW3.out]
  obtain ⟨JB, hJB⟩ : ∃ JB, JB = w2.heap.size := ⟨_, rfl⟩
  rw [← hJB] at B3 ⊢
  clear hJB
  obtain ⟨b0, b1, b2⟩ := trip_room (grown_refl W3 none) B3.out
  obtain ⟨⟨q0, q1, q2, q3⟩, _⟩ := quad_room hg23 B2.out
  go_cut [6, 7] (fun s6 s7 wx => ∃ (nb : Nat) (y1 : Option Addr) (y2 : Nat) (y3 : Option Addr) (y4 : Nat), s6 = .pointer (some ⟨nb, 0, none⟩) ∧ s7 = .int .i64 z ∧ wx.heap[nb]? = some (.cells #[.int .i64 T.start, .slice y1 T.reads.length y2, .slice y3 T.writes.length y4] 25) ∧ TxIs wx (.agg #[.int .i64 T.start, .slice y1 T.reads.length y2, .slice y3 T.writes.length y4]) T ∧ W3.grownBy wx none)
  case first =>
    have hgd := grown_drew (grown_refl W3 none)
    obtain ⟨WA, hWA⟩ : ∃ WA : World, WA = W3.alloc (.cells #[.int .i64 0, .slice none 0 0, .slice none 0 0] 25) := ⟨_, rfl⟩
    have hgA : W3.grownBy WA.drew none := by rw [hWA]; exact grown_drew (World.grownBy_alloc _ _ _)
    have HPA : Hid (WA.drew.heap[W3.heap.size]? = some (.cells #[.int .i64 0, .slice none 0 0, .slice none 0 0] 25)) := by rw [hWA]; exact heap_alloc_new W3 _
    have HWA : Hid (WA = W3.alloc (.cells #[.int .i64 0, .slice none 0 0, .slice none 0 0] 25)) := hWA
    clear hWA
    have hjz : JB ≠ W3.heap.size := Nat.ne_of_lt (cell_lt4 b0)
    have hqz : QB ≠ W3.heap.size := Nat.ne_of_lt (cell_lt4 q0)
    have e0 := hgd.cell b0 (by simp)
    have e1 := hgd.cell b1 (by simp)
    have e2 := hgd.cell b2 (by simp)
    have e3 := hgd.cell q0 (by simp)
    have e4 := hgd.cell q1 (by simp)
    have e5 := hgd.cell q2 (by simp)
    have e6 := hgd.cell q3 (by simp)
    have m0 := hgA.cell b0 (by simp)
    have m1 := hgA.cell b1 (by simp)
    have m2 := hgA.cell b2 (by simp)
    have m3 := hgA.cell q0 (by simp)
    have m4 := hgA.cell q1 (by simp)
    have m5 := hgA.cell q2 (by simp)
    have m6 := hgA.cell q3 (by simp)
    go_region_held3 (fun w' => w'.cell? ⟨JB, 0, none⟩ = some (.int .i64 st) ∧ w'.cell? ⟨JB, 1, none⟩ = some (.slice r1 rl r2) ∧ w'.cell? ⟨JB, 2, none⟩ = some (.slice r3 wl r4) ∧ w'.cell? ⟨QB, 0, none⟩ = some (.slice na r.name.length nc) ∧ w'.cell? ⟨QB, 1, none⟩ = some (.slice ka r.key.length kc) ∧ w'.cell? ⟨QB, 2, none⟩ = some (.bool r.gone) ∧ w'.cell? ⟨QB, 3, none⟩ = some (.slice la r.value.length lc))
      (first | with_reducible exact ⟨e0, e1, e2, e3, e4, e5, e6⟩ | (rw [← HWA.out]; with_reducible exact ⟨m0, m1, m2, m3, m4, m5, m6⟩) | with_reducible exact ⟨k0, k1, k2, k3, k4, k5, k6⟩ | with_reducible exact ⟨(World.grownBy_alloc _ _ none).cell k0 (by simp), (World.grownBy_alloc _ _ none).cell k1 (by simp), (World.grownBy_alloc _ _ none).cell k2 (by simp), (World.grownBy_alloc _ _ none).cell k3 (by simp), (World.grownBy_alloc _ _ none).cell k4 (by simp), (World.grownBy_alloc _ _ none).cell k5 (by simp), (World.grownBy_alloc _ _ none).cell k6 (by simp)⟩ | with_reducible exact ⟨cell_trip k0 hjz _ _ _, cell_trip k1 hjz _ _ _, cell_trip k2 hjz _ _ _, cell_trip k3 hqz _ _ _, cell_trip k4 hqz _ _ _, cell_trip k5 hqz _ _ _, cell_trip k6 hqz _ _ _⟩ | with_reducible exact ⟨cell_trip k0 hjy _ _ _, cell_trip k1 hjy _ _ _, cell_trip k2 hjy _ _ _, cell_trip k3 hqy _ _ _, cell_trip k4 hqy _ _ _, cell_trip k5 hqy _ _ _, cell_trip k6 hqy _ _ _⟩ | with_reducible exact ⟨j0, j1, j2, j3, j4, j5, j6⟩ | (rw [← HWB.out]; with_reducible exact ⟨l0, l1, l2, l3, l4, l5, l6⟩))
      (first
        | (go_at_call 17
           first
             | (rw [← HWA.out]; with_reducible refine (RC.out _ (grown_trans hg23 hgA)).mono ?_
                rintro e w5 ⟨x, rfl, h5, hg5⟩
                have hgm : W3.grownBy w5 none := grown_trans hgA hg5
                have HPB : Hid (w5.heap[W3.heap.size]? = some (.cells #[.int .i64 0, .slice none 0 0, .slice none 0 0] 25)) := pair_old hg5 HPA.out)
             | (with_reducible refine (RC.out _ (grown_trans hg23 hgd)).mono ?_
                rintro e w5 ⟨x, rfl, h5, hg5⟩
                have hgm : W3.grownBy w5 none := grown_trans hgd hg5)
           have H5 : Hid (WriteIs w5 x r) := h5
           have hjy : JB ≠ w5.heap.size := Nat.ne_of_lt (Nat.lt_of_lt_of_le (cell_lt4 b0) hgm.size)
           have hqy : QB ≠ w5.heap.size := Nat.ne_of_lt (Nat.lt_of_lt_of_le (cell_lt4 q0) hgm.size)
           obtain ⟨WB, hWB⟩ : ∃ WB : World, WB = w5.alloc (.cells #[.int .i64 0, .slice none 0 0, .slice none 0 0] 25) := ⟨_, rfl⟩
           have hgB : w5.grownBy WB none := by rw [hWB]; exact World.grownBy_alloc _ _ _
           have HPD : Hid (WB.heap[w5.heap.size]? = some (.cells #[.int .i64 0, .slice none 0 0, .slice none 0 0] 25)) := by rw [hWB]; exact heap_alloc_new w5 _
           have HWB : Hid (WB = w5.alloc (.cells #[.int .i64 0, .slice none 0 0, .slice none 0 0] 25)) := hWB
           have hgmB := grown_trans hgm hgB
           have j0 := hgm.cell b0 (by simp)
           have j1 := hgm.cell b1 (by simp)
           have j2 := hgm.cell b2 (by simp)
           have j3 := hgm.cell q0 (by simp)
           have j4 := hgm.cell q1 (by simp)
           have j5 := hgm.cell q2 (by simp)
           have j6 := hgm.cell q3 (by simp)
           have l0 := hgmB.cell b0 (by simp)
           have l1 := hgmB.cell b1 (by simp)
           have l2 := hgmB.cell b2 (by simp)
           have l3 := hgmB.cell q0 (by simp)
           have l4 := hgmB.cell q1 (by simp)
           have l5 := hgmB.cell q2 (by simp)
           have l6 := hgmB.cell q3 (by simp)
           clear h5 hWB)
        | (go_at_call 16
           first
             | (rw [← HWB.out]; with_reducible refine (NT.out _ _ _ (H3.out.grown hgmB) (H5.out.grown hgB)).mono ?_
                rintro e w6 ⟨y1, y2, y3, y4, rfl, h6, hg6⟩
                have hgn : W3.grownBy w6 none := grown_trans hgmB hg6
                have HPE : Hid (w6.heap[w5.heap.size]? = some (.cells #[.int .i64 0, .slice none 0 0, .slice none 0 0] 25)) := pair_old hg6 HPD.out
                have hpe := trip_room2 HPE.out
                obtain ⟨⟨u0, u1, u2⟩, u3, u4, u5⟩ := hpe)
             | (with_reducible refine (NT.out _ _ _ (H3.out.grown hgm) H5.out).mono ?_
                rintro e w6 ⟨y1, y2, y3, y4, rfl, h6, hg6⟩
                have hgn : W3.grownBy w6 none := grown_trans hgm hg6
                first
                  | (have HPC : Hid (w6.heap[W3.heap.size]? = some (.cells #[.int .i64 0, .slice none 0 0, .slice none 0 0] 25)) := pair_old hg6 HPB.out
                     have hpc := trip_room2 HPC.out
                     obtain ⟨⟨u0, u1, u2⟩, u3, u4, u5⟩ := hpc)
                  | skip)
           have H6 : Hid (TxIs w6 (.agg #[.int .i64 T.start, .slice y1 T.reads.length y2, .slice y3 T.writes.length y4]) T) := h6
           have k0 := hgn.cell b0 (by simp)
           have k1 := hgn.cell b1 (by simp)
           have k2 := hgn.cell b2 (by simp)
           have k3 := hgn.cell q0 (by simp)
           have k4 := hgn.cell q1 (by simp)
           have k5 := hgn.cell q2 (by simp)
           have k6 := hgn.cell q3 (by simp)
           clear h6))
    all_goals (go_wp2_with fail; go_meet; case rel =>
      first
        | exact ⟨w6.heap.size, y1, y2, y3, y4, rfl, rfl, heap_alloc_new w6 _, H6.out.grown (World.grownBy_alloc _ _ none), grown_alloc hgn _⟩
        | exact ⟨W3.heap.size, y1, y2, y3, y4, rfl, rfl, trip_set HPC.out _ _ _, H6.out.setTrip HPC.out (noByte_tx _ _ _ _ _ _ _) _ _ _, grown_setNew (grown_setNew (grown_setNew hgn _ (Nat.le_refl _) _ _) _ (Nat.le_refl _) _ _) _ (Nat.le_refl _) _ _⟩
        | exact ⟨w5.heap.size, y1, y2, y3, y4, rfl, rfl, trip_set HPE.out _ _ _, H6.out.setTrip HPE.out (noByte_tx _ _ _ _ _ _ _) _ _ _, grown_setNew (grown_setNew (grown_setNew hgn _ hgm.size _ _) _ hgm.size _ _) _ hgm.size _ _⟩)
  case rest =>
    obtain ⟨nb, y1, y2, y3, y4, rfl, rfl, hnb, hx, hgx⟩ := hcut
    have HNB : Hid (wc.heap[nb]? = some (.cells #[.int .i64 T.start, .slice y1 T.reads.length y2, .slice y3 T.writes.length y4] 25)) := hnb
    have HX1 : Hid (TxIs wc (.agg #[.int .i64 T.start, .slice y1 T.reads.length y2, .slice y3 T.writes.length y4]) T) := hx
    have hg24 := grown_trans hg23 hgx
    clear hnb hx b0 b1 b2 q0 q1 q2 q3
    obtain ⟨W4, hW4⟩ : ∃ W4, W4 = wc := ⟨_, rfl⟩
    rw [← hW4] at HNB HX1 hg24 hgx ⊢
    clear hW4
    obtain ⟨b0, b1, b2⟩ := trip_room hg24 B12.out
    obtain ⟨⟨q0, q1, q2, q3⟩, _⟩ := quad_room hg24 B2.out
    go_wp2_with fail
    refine (NR.out _ _ _ (HV.out.grown hg24) (HU.out.grown hg24)).mono ?_
    rintro e w6 ⟨v1, v2, v3, v4, rfl, h6, hg6⟩
    obtain ⟨W7, HW7, hg7, B7⟩ := alloc_namedX w6 (.cells #[.int .i64 T.start, .slice v1 T.reads.length v2, .slice v3 T.writes.length v4] 25)
    have hg47 := grown_trans hg6 hg7
    have H7 : Hid (TxIs W7 (.agg #[.int .i64 T.start, .slice v1 T.reads.length v2, .slice v3 T.writes.length v4]) T) := h6.grown hg7
    clear h6 b0 b1 b2 q0 q1 q2 q3
    go_upto_region 4 with fail
    rw [← HW7.out]
    obtain ⟨mb, hMB⟩ : ∃ mb, mb = w6.heap.size := ⟨_, rfl⟩
    rw [← hMB] at B7 ⊢
    clear hMB
    obtain ⟨n0, n1, n2⟩ := trip_room hg47 HNB.out
    obtain ⟨m0, m1, m2⟩ := trip_room (grown_refl W7 none) B7.out
    go_wp2_with fail
    refine (SN.out _ _ _ (HX1.out.grown hg47) H7.out).mono ?_
    rintro e w8 ⟨rfl, hg8⟩
    have hg48 := grown_trans hg47 hg8
    have hg38 := grown_trans hgx hg48
    have hg28 := grown_trans hg24 hg48
    clear n0 n1 n2 m0 m1 m2
    obtain ⟨a0, a1, a2⟩ := trip_room hg28 B12.out
    obtain ⟨b0, b1, b2⟩ := trip_room hg38 B3.out
    go_wp2_with fail
    refine (ST.out _ _ _ (H3.out.grown hg38) (HV.out.grown hg28)).mono ?_
    rintro e w9 ⟨rfl, hg9⟩
    clear a0 a1 a2 b0 b1 b2
    go_wp2
    go_ret
    exact ⟨rfl, grown_trans hg02 (grown_trans hg28 hg9)⟩
end Go.Proofs.Ytpmfbfflacbmjaa
