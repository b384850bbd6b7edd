/-
  The walk of canopykeep.txnOf, over what txn.Write, txn.Note and txn.Check must keep.
-/
import Derived.Test.YtpmfbfflacbmjacKRead
import Derived.Test.YtpmfbfflacbmjacKWrites
import Derived.Test.YtpmfbfflacbmjacPart2
import Derived.Deep.RegionHeld3
namespace Go.Proofs.Ytpmfbfflacbmjac
open Go.RowKit
theorem cell_ltK {w : World} {b o : Nat} {v : Value} (h : w.cell? ⟨b, o, none⟩ = some v) : b < w.heap.size := by
  rcases Nat.lt_or_ge b w.heap.size with h' | h'
  · exact h'
  · simp [World.cell?, Array.getElem?_eq_none h'] at h
theorem writeF_fitsX (p : Plc) : PlcFits (writeF p) := by
  obtain ⟨h1, h2, h3⟩ := (writeE_iff _).1 (writeF_okX p)
  refine ⟨by omega, by omega, ?_⟩
  by_cases hg : (writeF p).gone = true
  · rw [if_pos hg] at h3; rw [h3]; simp
  · rw [if_neg hg] at h3; omega
theorem txOK_fits {t : Tx} (h : TxOK t) : FitsX t := by
  have h1 := h.start
  have h2 := h.reads
  have h3 := h.writes
  refine ⟨by omega, ⟨by omega, fun i hi => read_fits ?_⟩, ⟨by omega, fun i hi => ?_⟩⟩
  · have := h.each t.reads[i] (List.getElem_mem hi)
    rwa [show t.reads[i] = t.reads.getD i noRd by simp [hi]] at this
  · have := h.wrs t.writes[i] (List.getElem_mem hi)
    rw [show t.writes[i] = t.writes.getD i noPlc by simp [hi]] at this
    obtain ⟨g1, g2, g3⟩ := (writeE_iff _).1 this
    refine ⟨by omega, by omega, ?_⟩
    by_cases hg : (t.writes.getD i noPlc).gone = true
    · rw [if_pos hg] at g3; rw [g3]; simp
    · rw [if_neg hg] at g3; omega
theorem places_cells {w : World} {a : Option Addr} {n cap : Nat} {l : List Plc} (h : PlacesIs w (.slice a n cap) l) (i : Nat) (hi : i < l.length) : ∃ b o, a = some ⟨b, o, none⟩ ∧ ∃ u1 u2 u3 u4 u5 u6, (w.cell? ⟨b, o + i * 4, none⟩ = some (.slice u1 (l.getD i noPlc).name.length u2) ∧ w.cell? ⟨b, o + i * 4 + 1, none⟩ = some (.slice u3 (l.getD i noPlc).key.length u4) ∧ w.cell? ⟨b, o + i * 4 + 2, none⟩ = some (.slice u5 (l.getD i noPlc).value.length u6) ∧ w.cell? ⟨b, o + i * 4 + 3, none⟩ = some (.bool (l.getD i noPlc).gone)) ∧ PlaceIs w (.agg #[.slice u1 (l.getD i noPlc).name.length u2, .slice u3 (l.getD i noPlc).key.length u4, .slice u5 (l.getD i noPlc).value.length u6, .bool (l.getD i noPlc).gone]) (l.getD i noPlc) := by
  obtain ⟨b, o, rfl, hat⟩ := h.at i hi
  obtain ⟨vn, vk, vl, c1, c2, c3, c4, s1, s2, s3⟩ := hat
  obtain ⟨u1, u2, rfl⟩ := s1.shape
  obtain ⟨u3, u4, rfl⟩ := s2.shape
  obtain ⟨u5, u6, rfl⟩ := s3.shape
  exact ⟨b, o, rfl, u1, u2, u3, u4, u5, u6, ⟨c1, c2, c3, c4⟩, ⟨_, _, _, rfl, s1, s2, s3⟩⟩
theorem ret_txB {v : Value} {a b : Bool} (h : a = b) : Ending.returned (Value.tuple #[v, .bool b]) = Ending.returned (Value.tuple #[v, .bool a]) := by rw [h]
set_option maxRecDepth 100000 in
set_option maxHeartbeats 4000000 in
theorem ktxn_any (hW : TxWriteOK) (hN : TxNoteOK) (hC : TxCheckOK) (w : World) (v u : Value) (ws rs : List Plc) (hv : PlacesIs w v ws) (hl : FitsQ ws) (hu : PlacesIs w u rs) (hr : FitsQ rs) :
    Calls Try.prog 7 #[v, u] w fun e w' => ∃ ra rc wa wc, e = .returned (.tuple #[.agg #[.int .i64 (txOf ws rs).start, .slice ra (txOf ws rs).reads.length rc, .slice wa (txOf ws rs).writes.length wc], .bool true]) ∧ TxIs w' (.agg #[.int .i64 (txOf ws rs).start, .slice ra (txOf ws rs).reads.length rc, .slice wa (txOf ws rs).writes.length wc]) (txOf ws rs) ∧ w.grownBy w' none := by
  obtain ⟨a, cap, rfl⟩ := hv.shape
  obtain ⟨ua, uc, rfl⟩ := hu.shape
  have HV : Hid (PlacesIs w (.slice a ws.length cap) ws) := hv
  have HU : Hid (PlacesIs w (.slice ua rs.length uc) rs) := hu
  have HFW : Hid (∀ i, i < ws.length → PlcFits (ws.getD i noPlc)) := hl.2
  have HFR : Hid (∀ i, i < rs.length → PlcFits (rs.getD i noPlc)) := hr.2
  have hwl := hl.1
  have hrl := hr.1
  have KW : Hid (∀ w' x p, PlaceIs w' x p → PlcFits p → Calls Try.prog 17 #[x] w' fun e w'' => ∃ y, e = .returned y ∧ WriteIs w'' y (writeF p) ∧ w'.grownBy w'' none) := fun w' x p h hp => by
    refine (write_any w' x p h hp).mono ?_
    rintro e w'' ⟨vn, vk, vv, rfl, h1, h2, h3, hg⟩
    exact ⟨_, rfl, ⟨_, _, _, rfl, (h1.part (base := 0)).slice, (h2.part (base := 0)).slice, (h3.part (base := 0)).slice⟩, hg⟩
  have KR : Hid (∀ w' x p, PlaceIs w' x p → PlcFits p → Calls Try.prog 16 #[x] w' fun e w'' => ∃ n1 n2 n3 n4 n5 n6, e = .returned (.agg #[.slice n1 (readF p).name.length n2, .slice n3 (readF p).key.length n4, .bool (readF p).wide, .slice n5 (readF p).last.length n6]) ∧ ReadIs w'' (.agg #[.slice n1 (readF p).name.length n2, .slice n3 (readF p).key.length n4, .bool (readF p).wide, .slice n5 (readF p).last.length n6]) (readF p) ∧ w'.grownBy w'' none) := fun w' x p h hp => by
    refine (kread_any w' x p h hp).mono ?_
    rintro e w'' ⟨vn, vk, vv, rfl, h1, h2, h3, hg⟩
    obtain ⟨n1, n2, rfl⟩ := h1.shape
    obtain ⟨n3, n4, rfl⟩ := h2.shape
    obtain ⟨n5, n6, rfl⟩ := h3.shape
    exact ⟨n1, n2, n3, n4, n5, n6, rfl, ⟨_, _, _, rfl, (h1.part (base := 0)).slice, (h2.part (base := 0)).slice, (h3.part (base := 0)).slice⟩, hg⟩
  have TW : Hid (∀ w' x y t p, TxIs w' x t → FitsX t → WriteIs w' y p → PlcFits p → Calls Try.prog 22 #[x, y] w' fun e w'' => ∃ a1 a2 a3 a4, e = .returned (.tuple #[.agg #[.int .i64 (twriteT t p).start, .slice a1 (twriteT t p).reads.length a2, .slice a3 (twriteT t p).writes.length a4], .int .i64 (twriteE t p)]) ∧ TxIs w'' (.agg #[.int .i64 (twriteT t p).start, .slice a1 (twriteT t p).reads.length a2, .slice a3 (twriteT t p).writes.length a4]) (twriteT t p) ∧ w'.grownBy w'' none) := fun w' x y t p h1 h2 h3 h4 => by
    refine (hW w' x y t p h1 h2 h3 h4).mono ?_
    rintro e w'' ⟨x, rfl, hx, hg⟩
    obtain ⟨a1, a2, a3, a4, rfl⟩ := hx.agg
    exact ⟨a1, a2, a3, a4, rfl, hx, hg⟩
  have TN : Hid (∀ w' x y t r, TxIs w' x t → FitsX t → ReadIs w' y r → RdFits r → Calls Try.prog 15 #[x, y] w' fun e w'' => ∃ a1 a2 a3 a4, e = .returned (.tuple #[.agg #[.int .i64 (noteT t r).start, .slice a1 (noteT t r).reads.length a2, .slice a3 (noteT t r).writes.length a4], .int .i64 (noteE t r)]) ∧ TxIs w'' (.agg #[.int .i64 (noteT t r).start, .slice a1 (noteT t r).reads.length a2, .slice a3 (noteT t r).writes.length a4]) (noteT t r) ∧ w'.grownBy w'' none) := fun w' x y t r h1 h2 h3 h4 => by
    refine (hN w' x y t r h1 h2 h3 h4).mono ?_
    rintro e w'' ⟨x, rfl, hx, hg⟩
    obtain ⟨a1, a2, a3, a4, rfl⟩ := hx.agg
    exact ⟨a1, a2, a3, a4, rfl, hx, hg⟩
  have TC : Hid (∀ w' x t, TxIs w' x t → TxOK t → Calls Try.prog 18 #[x] w' fun e w'' => e = .returned (.int .i64 0) ∧ w'.grownBy w'' none) := fun w' x t h1 h2 => by
    have := hC w' x t h1 (txOK_fits h2)
    rw [(tx_iff t).2 h2] at this
    exact this
  obtain ⟨Z, hZ⟩ : ∃ Z, Z = txOf ws rs := ⟨_, rfl⟩
  have HZ : Hid (Z = mkN (mkW (ws.take 8)) (rs.take 8)) := hZ
  rw [← hZ]
  clear hv hl hu hr hW hN hC hZ
  obtain ⟨W1, HW1, hg1, B1⟩ := alloc_namedX w (.cells #[.int .i64 0, .slice none 0 0, .slice none 0 0] 28)
  obtain ⟨W2, HW2, hg2, B2⟩ := alloc_namedX W1 (.cells #[.int .i64 0, .slice none 0 0, .slice none 0 0] 28)
  have s1 : W1.heap.size = w.heap.size + 1 := by rw [HW1.out]; simp
  rw [s1] at B2
  have hg02 := grown_trans hg1 hg2
  have HX : Hid (W2 = (w.alloc (.cells #[.int .i64 0, .slice none 0 0, .slice none 0 0] 28)).alloc (.cells #[.int .i64 0, .slice none 0 0, .slice none 0 0] 28)) := by show _ = _; rw [HW2.out, HW1.out]
  have R2 : Hid (W2.heap[w.heap.size]? = some (.cells #[.int .i64 0, .slice none 0 0, .slice none 0 0] 28)) := pair_old hg2 B1.out
  clear B1 HW1 HW2 s1 hg1 hg2
  go_enter Try.func7, Try.ntmps7
  go_upto_region 2 with fail
  rw [← HX.out]
  obtain ⟨TB, hTB⟩ : ∃ TB, TB = w.heap.size + 1 := ⟨_, rfl⟩
  obtain ⟨RB, hRB⟩ : ∃ RB, RB = w.heap.size := ⟨_, rfl⟩
  have wTB : w.heap.size ≤ TB := by omega
  have wRB : w.heap.size ≤ RB := by omega
  have nRT : RB ≠ TB := by omega
  rw [← hTB] at B2 ⊢
  rw [← hRB] at R2 ⊢
  clear hTB hRB HX
  go_wp2_with fail
  go_loopw [7, 8, 9] (fun s7 _ _ wr => ∃ i : Nat, s7 = .int .i64 (i : Int) ∧ i ≤ ws.length ∧ i ≤ 8 ∧ (∃ r1 r2 r3 r4, wr.heap[TB]? = some (.cells #[.int .i64 (mkW (ws.take i)).start, .slice r1 (mkW (ws.take i)).reads.length r2, .slice r3 (mkW (ws.take i)).writes.length r4] 28) ∧ TxIs wr (.agg #[.int .i64 (mkW (ws.take i)).start, .slice r1 (mkW (ws.take i)).reads.length r2, .slice r3 (mkW (ws.take i)).writes.length r4]) (mkW (ws.take i))) ∧ wr.heap[RB]? = some (.cells #[.int .i64 0, .slice none 0 0, .slice none 0 0] 28) ∧ w.grownBy wr none) (fun s7 _ _ _ => 8 - (intOf s7).toNat)
  case atStart => exact ⟨0, rfl, by omega, by omega, ⟨none, 0, none, 0, B2.out, txIs_no _⟩, R2.out, hg02⟩
  case round =>
    obtain ⟨i, rfl, hi1, hi2, ⟨r1, r2, r3, r4, hT, hX⟩, hRb, hg⟩ := hrel
    by_cases hlt : i < ws.length
    · have i1 : (i : Int) < (ws.length : Int) := by omega
      by_cases hlt8 : i < 8
      · have i2 : (i : Int) < 8 := by omega
        have hTW := mkW_ok ws i (by omega) (by omega)
        obtain ⟨hE0, hTW2⟩ := txW_step hTW (by omega) (writeF_okX (ws.getD i noPlc))
        have hmk := mkW_take ws i hlt
        obtain ⟨b, o, rfl, y1, y2, y3, y4, y5, y6, ⟨x1w, x2w, x3w, x4w⟩, hpl⟩ := places_cells HV.out i hlt
        have q0 := hg.cell x1w (by simp)
        have q1 := hg.cell x2w (by simp)
        have q2 := hg.cell x3w (by simp)
        have q3 := hg.cell x4w (by simp)
        have hpf := HFW.out i hlt
        obtain ⟨⟨b0, b1, b2⟩, _⟩ := trip_room2 hT
        have HTB : Hid (wr.heap[TB]? = some (.cells #[.int .i64 (mkW (ws.take i)).start, .slice r1 (mkW (ws.take i)).reads.length r2, .slice r3 (mkW (ws.take i)).writes.length r4] 28)) := hT
        have H3 : Hid (TxIs wr (.agg #[.int .i64 (mkW (ws.take i)).start, .slice r1 (mkW (ws.take i)).reads.length r2, .slice r3 (mkW (ws.take i)).writes.length r4]) (mkW (ws.take i))) := hX
        have HRB : Hid (wr.heap[RB]? = some (.cells #[.int .i64 0, .slice none 0 0, .slice none 0 0] 28)) := hRb
        have RC : Hid (∀ w', wr.grownBy w' none → Calls Try.prog 17 #[.agg #[.slice y1 (ws.getD i noPlc).name.length y2, .slice y3 (ws.getD i noPlc).key.length y4, .slice y5 (ws.getD i noPlc).value.length y6, .bool (ws.getD i noPlc).gone]] w' fun e w'' => ∃ y, e = .returned y ∧ WriteIs w'' y (writeF (ws.getD i noPlc)) ∧ w'.grownBy w'' none) := fun w' h => KW.out w' _ _ (hpl.grown (grown_trans hg h)) hpf
        have NT : Hid (∀ w' x y, TxIs w' x (mkW (ws.take i)) → WriteIs w' y (writeF (ws.getD i noPlc)) → Calls Try.prog 22 #[x, y] w' fun e w'' => ∃ a1 a2 a3 a4, e = .returned (.tuple #[.agg #[.int .i64 (twriteT (mkW (ws.take i)) (writeF (ws.getD i noPlc))).start, .slice a1 (twriteT (mkW (ws.take i)) (writeF (ws.getD i noPlc))).reads.length a2, .slice a3 (twriteT (mkW (ws.take i)) (writeF (ws.getD i noPlc))).writes.length a4], .int .i64 0]) ∧ TxIs w'' (.agg #[.int .i64 (twriteT (mkW (ws.take i)) (writeF (ws.getD i noPlc))).start, .slice a1 (twriteT (mkW (ws.take i)) (writeF (ws.getD i noPlc))).reads.length a2, .slice a3 (twriteT (mkW (ws.take i)) (writeF (ws.getD i noPlc))).writes.length a4]) (twriteT (mkW (ws.take i)) (writeF (ws.getD i noPlc))) ∧ w'.grownBy w'' none) := fun w' x y h1 h2 => by
          have := TW.out w' x y _ _ h1 (txOK_fits hTW.ok) h2 (writeF_fitsX _)
          rw [hE0] at this
          exact this
        rw [← hmk] at NT
        obtain ⟨T, hT0⟩ : ∃ T, T = mkW (ws.take (i + 1)) := ⟨_, rfl⟩
        rw [← hT0] at NT
        have HTT : Hid (T = mkW (ws.take (i + 1))) := hT0
        clear hT0
        generalize (mkW (ws.take i)).start = st at *
        generalize (mkW (ws.take i)).reads.length = rl at *
        generalize (mkW (ws.take i)).writes.length = wl at *
        generalize ws.getD i noPlc = P at *
        clear hT hX hRb hTW hTW2 hE0 hmk x1w x2w x3w x4w hpl hpf
        go_upto_region 5 with fail
        go_cut [8, 9] (fun s6 s7 wx => ∃ (nb : Nat) (z1 : Option Addr) (z2 : Nat) (z3 : Option Addr) (z4 : Nat), s6 = .pointer (some ⟨nb, 0, none⟩) ∧ s7 = .int .i64 0 ∧ wx.heap[nb]? = some (.cells #[.int .i64 T.start, .slice z1 T.reads.length z2, .slice z3 T.writes.length z4] 28) ∧ TxIs wx (.agg #[.int .i64 T.start, .slice z1 T.reads.length z2, .slice z3 T.writes.length z4]) T ∧ wr.grownBy wx none)
        case first =>
          have hgd := grown_drew (grown_refl wr none)
          obtain ⟨WA, hWA⟩ : ∃ WA : World, WA = wr.alloc (.cells #[.int .i64 0, .slice none 0 0, .slice none 0 0] 28) := ⟨_, rfl⟩
          have hgA : wr.grownBy WA.drew none := by rw [hWA]; exact grown_drew (World.grownBy_alloc _ _ _)
          have HPA : Hid (WA.drew.heap[wr.heap.size]? = some (.cells #[.int .i64 0, .slice none 0 0, .slice none 0 0] 28)) := by rw [hWA]; exact heap_alloc_new wr _
          have HWA : Hid (WA = wr.alloc (.cells #[.int .i64 0, .slice none 0 0, .slice none 0 0] 28)) := hWA
          clear hWA
          have hjz : TB ≠ wr.heap.size := Nat.ne_of_lt (cell_ltK b0)
          have hqz : b ≠ wr.heap.size := Nat.ne_of_lt (cell_ltK q0)
          have e0 := hgd.cell b0 (by simp)
          have e1 := hgd.cell b1 (by simp)
          have e2 := hgd.cell b2 (by simp)
          have e3 := hgd.cell q0 (by simp)
          have e4 := hgd.cell q1 (by simp)
          have e5 := hgd.cell q2 (by simp)
          have e6 := hgd.cell q3 (by simp)
          have m0 := hgA.cell b0 (by simp)
          have m1 := hgA.cell b1 (by simp)
          have m2 := hgA.cell b2 (by simp)
          have m3 := hgA.cell q0 (by simp)
          have m4 := hgA.cell q1 (by simp)
          have m5 := hgA.cell q2 (by simp)
          have m6 := hgA.cell q3 (by simp)
          go_region_held3 (fun w' => w'.cell? ⟨TB, 0, none⟩ = some (.int .i64 st) ∧ w'.cell? ⟨TB, 1, none⟩ = some (.slice r1 rl r2) ∧ w'.cell? ⟨TB, 2, none⟩ = some (.slice r3 wl r4) ∧ w'.cell? ⟨b, o + i * 4, none⟩ = some (.slice y1 P.name.length y2) ∧ w'.cell? ⟨b, o + i * 4 + 1, none⟩ = some (.slice y3 P.key.length y4) ∧ w'.cell? ⟨b, o + i * 4 + 2, none⟩ = some (.slice y5 P.value.length y6) ∧ w'.cell? ⟨b, o + i * 4 + 3, none⟩ = some (.bool P.gone))
            (first | with_reducible exact ⟨e0, e1, e2, e3, e4, e5, e6⟩ | (rw [← HWA.out]; with_reducible exact ⟨m0, m1, m2, m3, m4, m5, m6⟩) | with_reducible exact ⟨k0, k1, k2, k3, k4, k5, k6⟩ | with_reducible exact ⟨(World.grownBy_alloc _ _ none).cell k0 (by simp), (World.grownBy_alloc _ _ none).cell k1 (by simp), (World.grownBy_alloc _ _ none).cell k2 (by simp), (World.grownBy_alloc _ _ none).cell k3 (by simp), (World.grownBy_alloc _ _ none).cell k4 (by simp), (World.grownBy_alloc _ _ none).cell k5 (by simp), (World.grownBy_alloc _ _ none).cell k6 (by simp)⟩ | with_reducible exact ⟨cell_trip k0 hjz _ _ _, cell_trip k1 hjz _ _ _, cell_trip k2 hjz _ _ _, cell_trip k3 hqz _ _ _, cell_trip k4 hqz _ _ _, cell_trip k5 hqz _ _ _, cell_trip k6 hqz _ _ _⟩ | with_reducible exact ⟨cell_trip k0 hjy _ _ _, cell_trip k1 hjy _ _ _, cell_trip k2 hjy _ _ _, cell_trip k3 hqy _ _ _, cell_trip k4 hqy _ _ _, cell_trip k5 hqy _ _ _, cell_trip k6 hqy _ _ _⟩ | with_reducible exact ⟨j0, j1, j2, j3, j4, j5, j6⟩ | (rw [← HWB.out]; with_reducible exact ⟨l0, l1, l2, l3, l4, l5, l6⟩))
            (first
              | (go_at_call 17
                 first
                   | (rw [← HWA.out]; with_reducible refine (RC.out _ hgA).mono ?_
                      rintro e w5 ⟨x, rfl, h5, hg5⟩
                      have hgm : wr.grownBy w5 none := grown_trans hgA hg5
                      have HPB : Hid (w5.heap[wr.heap.size]? = some (.cells #[.int .i64 0, .slice none 0 0, .slice none 0 0] 28)) := pair_old hg5 HPA.out)
                   | (with_reducible refine (RC.out _ hgd).mono ?_
                      rintro e w5 ⟨x, rfl, h5, hg5⟩
                      have hgm : wr.grownBy w5 none := grown_trans hgd hg5)
                 have H5 : Hid (WriteIs w5 x (writeF P)) := h5
                 have hjy : TB ≠ w5.heap.size := Nat.ne_of_lt (Nat.lt_of_lt_of_le (cell_ltK b0) hgm.size)
                 have hqy : b ≠ w5.heap.size := Nat.ne_of_lt (Nat.lt_of_lt_of_le (cell_ltK q0) hgm.size)
                 obtain ⟨WB, hWB⟩ : ∃ WB : World, WB = w5.alloc (.cells #[.int .i64 0, .slice none 0 0, .slice none 0 0] 28) := ⟨_, rfl⟩
                 have hgB : w5.grownBy WB none := by rw [hWB]; exact World.grownBy_alloc _ _ _
                 have HPD : Hid (WB.heap[w5.heap.size]? = some (.cells #[.int .i64 0, .slice none 0 0, .slice none 0 0] 28)) := by rw [hWB]; exact heap_alloc_new w5 _
                 have HWB : Hid (WB = w5.alloc (.cells #[.int .i64 0, .slice none 0 0, .slice none 0 0] 28)) := hWB
                 have hgmB := grown_trans hgm hgB
                 have j0 := hgm.cell b0 (by simp)
                 have j1 := hgm.cell b1 (by simp)
                 have j2 := hgm.cell b2 (by simp)
                 have j3 := hgm.cell q0 (by simp)
                 have j4 := hgm.cell q1 (by simp)
                 have j5 := hgm.cell q2 (by simp)
                 have j6 := hgm.cell q3 (by simp)
                 have l0 := hgmB.cell b0 (by simp)
                 have l1 := hgmB.cell b1 (by simp)
                 have l2 := hgmB.cell b2 (by simp)
                 have l3 := hgmB.cell q0 (by simp)
                 have l4 := hgmB.cell q1 (by simp)
                 have l5 := hgmB.cell q2 (by simp)
                 have l6 := hgmB.cell q3 (by simp)
                 clear h5 hWB)
              | (go_at_call 22
                 first
                   | (rw [← HWB.out]; with_reducible refine (NT.out _ _ _ (H3.out.grown hgmB) (H5.out.grown hgB)).mono ?_
                      rintro e w6 ⟨z1, z2, z3, z4, rfl, h6, hg6⟩
                      have hgn : wr.grownBy w6 none := grown_trans hgmB hg6
                      have HPE : Hid (w6.heap[w5.heap.size]? = some (.cells #[.int .i64 0, .slice none 0 0, .slice none 0 0] 28)) := pair_old hg6 HPD.out
                      have hpe := trip_room2 HPE.out
                      obtain ⟨⟨u0, u1, u2⟩, u3, u4, u5⟩ := hpe)
                   | (with_reducible refine (NT.out _ _ _ (H3.out.grown hgm) H5.out).mono ?_
                      rintro e w6 ⟨z1, z2, z3, z4, rfl, h6, hg6⟩
                      have hgn : wr.grownBy w6 none := grown_trans hgm hg6
                      first
                        | (have HPC : Hid (w6.heap[wr.heap.size]? = some (.cells #[.int .i64 0, .slice none 0 0, .slice none 0 0] 28)) := pair_old hg6 HPB.out
                           have hpc := trip_room2 HPC.out
                           obtain ⟨⟨u0, u1, u2⟩, u3, u4, u5⟩ := hpc)
                        | skip)
                 have H6 : Hid (TxIs w6 (.agg #[.int .i64 T.start, .slice z1 T.reads.length z2, .slice z3 T.writes.length z4]) T) := h6
                 have k0 := hgn.cell b0 (by simp)
                 have k1 := hgn.cell b1 (by simp)
                 have k2 := hgn.cell b2 (by simp)
                 have k3 := hgn.cell q0 (by simp)
                 have k4 := hgn.cell q1 (by simp)
                 have k5 := hgn.cell q2 (by simp)
                 have k6 := hgn.cell q3 (by simp)
                 clear h6))
          all_goals (go_wp2_with fail; go_meet; case rel =>
            first
              | exact ⟨w6.heap.size, z1, z2, z3, z4, rfl, rfl, heap_alloc_new w6 _, H6.out.grown (World.grownBy_alloc _ _ none), grown_alloc hgn _⟩
              | exact ⟨wr.heap.size, z1, z2, z3, z4, rfl, rfl, trip_set HPC.out _ _ _, H6.out.setTrip HPC.out (noByte_tx _ _ _ _ _ _ _) _ _ _, grown_setNew (grown_setNew (grown_setNew hgn _ (Nat.le_refl _) _ _) _ (Nat.le_refl _) _ _) _ (Nat.le_refl _) _ _⟩
              | exact ⟨w5.heap.size, z1, z2, z3, z4, rfl, rfl, trip_set HPE.out _ _ _, H6.out.setTrip HPE.out (noByte_tx _ _ _ _ _ _ _) _ _ _, grown_setNew (grown_setNew (grown_setNew hgn _ hgm.size _ _) _ hgm.size _ _) _ hgm.size _ _⟩)
        case rest =>
          obtain ⟨nb, z1, z2, z3, z4, rfl, rfl, hnb, hx, hgx⟩ := hcut
          have HX1 : Hid (TxIs wc (.agg #[.int .i64 T.start, .slice z1 T.reads.length z2, .slice z3 T.writes.length z4]) T) := hx
          have hTc := pair_old hgx HTB.out
          obtain ⟨⟨n0, n1, n2⟩, _⟩ := trip_room2 hnb
          obtain ⟨⟨c0, c1, c2⟩, f0, f1, f2⟩ := trip_room2 hTc
          have NT2 : Hid ((setTrip wc TB (.int .i64 T.start) (.slice z1 T.reads.length z2) (.slice z3 T.writes.length z4)).heap[TB]? = some (.cells #[.int .i64 T.start, .slice z1 T.reads.length z2, .slice z3 T.writes.length z4] 28)) := trip_set hTc _ _ _
          have NX2 : Hid (TxIs (setTrip wc TB (.int .i64 T.start) (.slice z1 T.reads.length z2) (.slice z3 T.writes.length z4)) (.agg #[.int .i64 T.start, .slice z1 T.reads.length z2, .slice z3 T.writes.length z4]) T) := HX1.out.setTrip hTc (noByte_tx _ _ _ _ _ _ _) _ _ _
          have NR2 : Hid ((setTrip wc TB (.int .i64 T.start) (.slice z1 T.reads.length z2) (.slice z3 T.writes.length z4)).heap[RB]? = some (.cells #[.int .i64 0, .slice none 0 0, .slice none 0 0] 28)) := set_apart (set_apart (set_apart (pair_old hgx HRB.out) nRT) nRT) nRT
          have NG2 : Hid (w.grownBy (setTrip wc TB (.int .i64 T.start) (.slice z1 T.reads.length z2) (.slice z3 T.writes.length z4)) none) := grown_setNew (grown_setNew (grown_setNew (grown_trans hg hgx) _ wTB _ _) _ wTB _ _) _ wTB _ _
          clear hnb hx hTc b0 b1 b2 q0 q1 q2 q3
          go_wp2_with fail
          rw [HTT.out] at NT2 NX2 NR2 NG2 ⊢
          go_roundw
          case rel =>
            first
              | exact ⟨i + 1, by go_num, by omega, by omega, ⟨z1, z2, z3, z4, NT2.out, NX2.out⟩, NR2.out, NG2.out⟩
              | ((repeat apply Exists.intro); refine ⟨⟨i + 1, ?_, by omega, by omega, ⟨z1, z2, z3, z4, NT2.out, NX2.out⟩, NR2.out, NG2.out⟩, rfl⟩; go_num)
          case measure => simp [intOf]; omega
      · have i2 : ¬ (i : Int) < 8 := by omega
        have hi8 : i = 8 := by omega
        have HMW : Hid (mkW (ws.take i) = mkW (ws.take 8)) := by show _ = _; rw [hi8]
        have hOK0 := mkW_ok ws i (by omega) (by omega)
        have HOK : Hid (TxOK (mkW (ws.take i)) ∧ (mkW (ws.take i)).reads = []) := ⟨hOK0.ok, hOK0.none⟩
        rw [HMW.out] at HOK hT hX
        obtain ⟨T0, hT0⟩ : ∃ T0, T0 = mkW (ws.take 8) := ⟨_, rfl⟩
        rw [← hT0] at HOK hT hX HZ
        have HT9 : Hid (wr.heap[TB]? = some (.cells #[.int .i64 T0.start, .slice r1 T0.reads.length r2, .slice r3 T0.writes.length r4] 28)) := hT
        have HX9 : Hid (TxIs wr (.agg #[.int .i64 T0.start, .slice r1 T0.reads.length r2, .slice r3 T0.writes.length r4]) T0) := hX
        have HR9 : Hid (wr.heap[RB]? = some (.cells #[.int .i64 0, .slice none 0 0, .slice none 0 0] 28)) := hRb
        clear hT hX hRb hOK0 hT0 HMW KW TW HV HFW
        go_wp2_with fail
        go_loopw [10, 11, 12, 13] (fun s10 _ _ _ wr => ∃ j : Nat, s10 = .int .i64 (j : Int) ∧ j ≤ rs.length ∧ j ≤ 8 ∧ (∃ r1 r2 r3 r4, wr.heap[TB]? = some (.cells #[.int .i64 (mkN T0 (rs.take j)).start, .slice r1 (mkN T0 (rs.take j)).reads.length r2, .slice r3 (mkN T0 (rs.take j)).writes.length r4] 28) ∧ TxIs wr (.agg #[.int .i64 (mkN T0 (rs.take j)).start, .slice r1 (mkN T0 (rs.take j)).reads.length r2, .slice r3 (mkN T0 (rs.take j)).writes.length r4]) (mkN T0 (rs.take j))) ∧ wr.heap[RB]? = some (.cells #[.int .i64 0, .slice none 0 0, .slice none 0 0] 28) ∧ w.grownBy wr none) (fun s10 _ _ _ _ => 8 - (intOf s10).toNat)
        case atStart => exact ⟨0, rfl, by omega, by omega, ⟨r1, r2, r3, r4, HT9.out, HX9.out⟩, HR9.out, hg⟩
        case round =>
          clear HT9 HX9 HR9 hg
          obtain ⟨j, rfl, hj1, hj2, ⟨a1, a2, a3, a4, hT, hX⟩, hRb, hg⟩ := hrel
          have hread0 : T0.reads.length = 0 := by rw [HOK.out.2]; rfl
          have hNj := mkN_ok HOK.out.1 rs j hj1 (by rw [hread0]; omega)
          by_cases hlt : j < rs.length
          · have j1 : (j : Int) < (rs.length : Int) := by omega
            by_cases hlt8 : j < 8
            · have j2 : (j : Int) < 8 := by omega
              obtain ⟨hE0, hN2⟩ := txN_step hNj (by rw [hread0]; omega) (readF_ok (rs.getD j noPlc))
              have hmk := mkN_take T0 rs j hlt
              obtain ⟨b, o, rfl, y1, y2, y3, y4, y5, y6, ⟨x1w, x2w, x3w, x4w⟩, hpl⟩ := places_cells HU.out j hlt
              have q0 := hg.cell x1w (by simp)
              have q1 := hg.cell x2w (by simp)
              have q2 := hg.cell x3w (by simp)
              have q3 := hg.cell x4w (by simp)
              have hpf := HFR.out j hlt
              have HTB : Hid (wr.heap[TB]? = some (.cells #[.int .i64 (mkN T0 (rs.take j)).start, .slice a1 (mkN T0 (rs.take j)).reads.length a2, .slice a3 (mkN T0 (rs.take j)).writes.length a4] 28)) := hT
              have H3 : Hid (TxIs wr (.agg #[.int .i64 (mkN T0 (rs.take j)).start, .slice a1 (mkN T0 (rs.take j)).reads.length a2, .slice a3 (mkN T0 (rs.take j)).writes.length a4]) (mkN T0 (rs.take j))) := hX
              have HRB : Hid (wr.heap[RB]? = some (.cells #[.int .i64 0, .slice none 0 0, .slice none 0 0] 28)) := hRb
              have RC : Hid (Calls Try.prog 16 #[.agg #[.slice y1 (rs.getD j noPlc).name.length y2, .slice y3 (rs.getD j noPlc).key.length y4, .slice y5 (rs.getD j noPlc).value.length y6, .bool (rs.getD j noPlc).gone]] wr fun e w'' => ∃ n1 n2 n3 n4 n5 n6, e = .returned (.agg #[.slice n1 (readF (rs.getD j noPlc)).name.length n2, .slice n3 (readF (rs.getD j noPlc)).key.length n4, .bool (readF (rs.getD j noPlc)).wide, .slice n5 (readF (rs.getD j noPlc)).last.length n6]) ∧ ReadIs w'' (.agg #[.slice n1 (readF (rs.getD j noPlc)).name.length n2, .slice n3 (readF (rs.getD j noPlc)).key.length n4, .bool (readF (rs.getD j noPlc)).wide, .slice n5 (readF (rs.getD j noPlc)).last.length n6]) (readF (rs.getD j noPlc)) ∧ wr.grownBy w'' none) := KR.out wr _ _ (hpl.grown hg) hpf
              have NT : Hid (∀ w' x y, TxIs w' x (mkN T0 (rs.take j)) → ReadIs w' y (readF (rs.getD j noPlc)) → Calls Try.prog 15 #[x, y] w' fun e w'' => ∃ a1 a2 a3 a4, e = .returned (.tuple #[.agg #[.int .i64 (noteT (mkN T0 (rs.take j)) (readF (rs.getD j noPlc))).start, .slice a1 (noteT (mkN T0 (rs.take j)) (readF (rs.getD j noPlc))).reads.length a2, .slice a3 (noteT (mkN T0 (rs.take j)) (readF (rs.getD j noPlc))).writes.length a4], .int .i64 0]) ∧ TxIs w'' (.agg #[.int .i64 (noteT (mkN T0 (rs.take j)) (readF (rs.getD j noPlc))).start, .slice a1 (noteT (mkN T0 (rs.take j)) (readF (rs.getD j noPlc))).reads.length a2, .slice a3 (noteT (mkN T0 (rs.take j)) (readF (rs.getD j noPlc))).writes.length a4]) (noteT (mkN T0 (rs.take j)) (readF (rs.getD j noPlc))) ∧ w'.grownBy w'' none) := fun w' x y h1 h2 => by
                have := TN.out w' x y _ _ h1 (txOK_fits hNj.ok) h2 (read_fits (readF_ok _))
                rw [hE0] at this
                exact this
              rw [← hmk] at NT
              obtain ⟨T, hT0⟩ : ∃ T, T = mkN T0 (rs.take (j + 1)) := ⟨_, rfl⟩
              rw [← hT0] at NT
              have HTT : Hid (T = mkN T0 (rs.take (j + 1))) := hT0
              clear hT0
              obtain ⟨⟨b0, b1, b2⟩, _⟩ := trip_room2 hT
              generalize (mkN T0 (rs.take j)).start = st at *
              generalize (mkN T0 (rs.take j)).reads.length = rl at *
              generalize (mkN T0 (rs.take j)).writes.length = wl at *
              generalize readF (rs.getD j noPlc) = RR at *
              generalize rs.getD j noPlc = P at *
              clear hT hX hRb hN2 hE0 hmk x1w x2w x3w x4w hpl hpf hNj
              go_wp2_with fail
              refine RC.out.mono ?_
              rintro e w2 ⟨n1, n2, n3, n4, n5, n6, rfl, h2, hg2⟩
              obtain ⟨W3, HW3, hg3, B3⟩ := alloc_namedX w2 (.cells #[.slice n1 RR.name.length n2, .slice n3 RR.key.length n4, .bool RR.wide, .slice n5 RR.last.length n6] 40)
              have hg23 := grown_trans hg2 hg3
              have HR3 : Hid (ReadIs W3 (.agg #[.slice n1 RR.name.length n2, .slice n3 RR.key.length n4, .bool RR.wide, .slice n5 RR.last.length n6]) RR) := h2.grown hg3
              clear h2 q0 q1 q2 q3 b0 b1 b2
              go_upto_region 13 with fail
              rw [← HW3.out]
              obtain ⟨QB, hQB⟩ : ∃ QB, QB = w2.heap.size := ⟨_, rfl⟩
              rw [← hQB] at B3 ⊢
              clear hQB HW3
              obtain ⟨b0, b1, b2⟩ := trip_room hg23 HTB.out
              obtain ⟨⟨q0, q1, q2, q3⟩, _⟩ := quad_room (grown_refl W3 none) B3.out
              go_wp2_with fail
              refine (NT.out _ _ _ (H3.out.grown hg23) HR3.out).mono ?_
              rintro e w4 ⟨z1, z2, z3, z4, rfl, h4, hg4⟩
              obtain ⟨W5, HW5, hg5, B5⟩ := alloc_namedX w4 (.cells #[.int .i64 T.start, .slice z1 T.reads.length z2, .slice z3 T.writes.length z4] 28)
              have hg35 := grown_trans hg4 hg5
              have hgx := grown_trans hg23 hg35
              have HX1 : Hid (TxIs W5 (.agg #[.int .i64 T.start, .slice z1 T.reads.length z2, .slice z3 T.writes.length z4]) T) := h4.grown hg5
              clear h4 b0 b1 b2 q0 q1 q2 q3
              go_upto_region 14 with fail
              rw [← HW5.out]
              obtain ⟨nb, hnbe⟩ : ∃ nb, nb = w4.heap.size := ⟨_, rfl⟩
              rw [← hnbe] at B5 ⊢
              clear hnbe HW5
              have hTc := pair_old hgx HTB.out
              obtain ⟨⟨n0, n1', n2'⟩, _⟩ := trip_room2 B5.out
              obtain ⟨⟨c0, c1, c2⟩, f0, f1, f2⟩ := trip_room2 hTc
              have NT2 : Hid ((setTrip W5 TB (.int .i64 T.start) (.slice z1 T.reads.length z2) (.slice z3 T.writes.length z4)).heap[TB]? = some (.cells #[.int .i64 T.start, .slice z1 T.reads.length z2, .slice z3 T.writes.length z4] 28)) := trip_set hTc _ _ _
              have NX2 : Hid (TxIs (setTrip W5 TB (.int .i64 T.start) (.slice z1 T.reads.length z2) (.slice z3 T.writes.length z4)) (.agg #[.int .i64 T.start, .slice z1 T.reads.length z2, .slice z3 T.writes.length z4]) T) := HX1.out.setTrip hTc (noByte_tx _ _ _ _ _ _ _) _ _ _
              have NR2 : Hid ((setTrip W5 TB (.int .i64 T.start) (.slice z1 T.reads.length z2) (.slice z3 T.writes.length z4)).heap[RB]? = some (.cells #[.int .i64 0, .slice none 0 0, .slice none 0 0] 28)) := set_apart (set_apart (set_apart (pair_old hgx HRB.out) nRT) nRT) nRT
              have NG2 : Hid (w.grownBy (setTrip W5 TB (.int .i64 T.start) (.slice z1 T.reads.length z2) (.slice z3 T.writes.length z4)) none) := grown_setNew (grown_setNew (grown_setNew (grown_trans hg hgx) _ wTB _ _) _ wTB _ _) _ wTB _ _
              clear hTc
              go_wp2_with fail
              rw [HTT.out] at NT2 NX2 NR2 NG2 ⊢
              go_roundw
              case rel =>
                first
                  | exact ⟨j + 1, by go_num, by omega, by omega, ⟨z1, z2, z3, z4, NT2.out, NX2.out⟩, NR2.out, NG2.out⟩
                  | ((repeat apply Exists.intro); refine ⟨⟨j + 1, ?_, by omega, by omega, ⟨z1, z2, z3, z4, NT2.out, NX2.out⟩, NR2.out, NG2.out⟩, rfl⟩; go_num)
              case measure => simp [intOf]; omega
            · have j2 : ¬ (j : Int) < 8 := by omega
              have hj8 : j = 8 := by omega
              have HMN : Hid (mkN T0 (rs.take j) = Z) := by show _ = _; rw [HZ.out, hj8]
              have HZOK : Hid (TxOK Z) := by show TxOK Z; rw [← HMN.out]; exact hNj.ok
              rw [HMN.out] at hT hX
              have HTB : Hid (wr.heap[TB]? = some (.cells #[.int .i64 Z.start, .slice a1 Z.reads.length a2, .slice a3 Z.writes.length a4] 28)) := hT
              have H3 : Hid (TxIs wr (.agg #[.int .i64 Z.start, .slice a1 Z.reads.length a2, .slice a3 Z.writes.length a4]) Z) := hX
              have HRB : Hid (wr.heap[RB]? = some (.cells #[.int .i64 0, .slice none 0 0, .slice none 0 0] 28)) := hRb
              have CK : Hid (∀ w', wr.grownBy w' none → Calls Try.prog 18 #[.agg #[.int .i64 Z.start, .slice a1 Z.reads.length a2, .slice a3 Z.writes.length a4]] w' fun e w'' => e = .returned (.int .i64 0) ∧ w'.grownBy w'' none) := fun w' h => TC.out w' _ Z (H3.out.grown h) HZOK.out
              obtain ⟨b0, b1, b2⟩ := trip_room (grown_refl wr none) HTB.out
              clear hT hX hRb hNj HMN HZ TN KR
              go_upto_region 17 with fail
              have hgd := grown_drew (grown_refl wr none)
              have e0 := hgd.cell b0 (by simp)
              have e1 := hgd.cell b1 (by simp)
              have e2 := hgd.cell b2 (by simp)
              go_region_held3 (fun w' => w'.cell? ⟨TB, 0, none⟩ = some (.int .i64 Z.start) ∧ w'.cell? ⟨TB, 1, none⟩ = some (.slice a1 Z.reads.length a2) ∧ w'.cell? ⟨TB, 2, none⟩ = some (.slice a3 Z.writes.length a4))
                (first | with_reducible exact ⟨e0, e1, e2⟩ | with_reducible exact ⟨f0, f1, f2⟩ | exact ⟨cell_trip f0 (Ne.symm nRT) _ _ _, cell_trip f1 (Ne.symm nRT) _ _ _, cell_trip f2 (Ne.symm nRT) _ _ _⟩)
                (first
                  | (go_at_call 18; refine (CK.out _ hgd).mono ?_; rintro e w2 ⟨rfl, hg2⟩; have f0 := hg2.cell e0 (by simp); have f1 := hg2.cell e1 (by simp); have f2 := hg2.cell e2 (by simp); have hgd2 := grown_trans hgd hg2; have hR := pair_old hgd2 HRB.out; have hRR := trip_room2 hR; obtain ⟨⟨k0, k1, k2⟩, k3, k4, k5⟩ := hRR; have HR2 : Hid (w2.heap[RB]? = some (.cells #[.int .i64 0, .slice none 0 0, .slice none 0 0] 28)) := hR; clear hR))
              all_goals (
                have NS := trip_set HR2.out (.int .i64 Z.start) (.slice a1 Z.reads.length a2) (.slice a3 Z.writes.length a4)
                obtain ⟨⟨g0, g1, g2⟩, _⟩ := trip_room2 NS
                have NX : Hid (TxIs (setTrip w2 RB (.int .i64 Z.start) (.slice a1 Z.reads.length a2) (.slice a3 Z.writes.length a4)) (.agg #[.int .i64 Z.start, .slice a1 Z.reads.length a2, .slice a3 Z.writes.length a4]) Z) := (H3.out.grown hgd2).setTrip HR2.out (noByte_tx _ _ _ _ _ _ _) _ _ _
                have NG : Hid (w.grownBy (setTrip w2 RB (.int .i64 Z.start) (.slice a1 Z.reads.length a2) (.slice a3 Z.writes.length a4)) none) := grown_setNew (grown_setNew (grown_setNew (grown_trans hg hgd2) _ wRB _ _) _ wRB _ _) _ wRB _ _
                clear NS
                go_wp2
                refine bodyPost_ret (v := .tuple #[.agg #[.int .i64 Z.start, .slice a1 Z.reads.length a2, .slice a3 Z.writes.length a4], .bool true]) (by simp [results, Try.results7, go_sem, g0, g1, g2]) rfl ?_
                exact ⟨_, _, _, _, rfl, NX.out, NG.out⟩)
          · have j1 : ¬ (j : Int) < (rs.length : Int) := by omega
            have HMN : Hid (mkN T0 (rs.take j) = Z) := by
              show _ = _
              rw [HZ.out, List.take_of_length_le (by omega : rs.length ≤ j), List.take_of_length_le (by omega : rs.length ≤ 8)]
            have HZOK : Hid (TxOK Z) := by show TxOK Z; rw [← HMN.out]; exact hNj.ok
            rw [HMN.out] at hT hX
            have HTB : Hid (wr.heap[TB]? = some (.cells #[.int .i64 Z.start, .slice a1 Z.reads.length a2, .slice a3 Z.writes.length a4] 28)) := hT
            have H3 : Hid (TxIs wr (.agg #[.int .i64 Z.start, .slice a1 Z.reads.length a2, .slice a3 Z.writes.length a4]) Z) := hX
            have HRB : Hid (wr.heap[RB]? = some (.cells #[.int .i64 0, .slice none 0 0, .slice none 0 0] 28)) := hRb
            have CK : Hid (∀ w', wr.grownBy w' none → Calls Try.prog 18 #[.agg #[.int .i64 Z.start, .slice a1 Z.reads.length a2, .slice a3 Z.writes.length a4]] w' fun e w'' => e = .returned (.int .i64 0) ∧ w'.grownBy w'' none) := fun w' h => TC.out w' _ Z (H3.out.grown h) HZOK.out
            obtain ⟨b0, b1, b2⟩ := trip_room (grown_refl wr none) HTB.out
            clear hT hX hRb hNj HMN HZ TN KR
            go_upto_region 17 with fail
            have hgd := grown_drew (grown_refl wr none)
            have e0 := hgd.cell b0 (by simp)
            have e1 := hgd.cell b1 (by simp)
            have e2 := hgd.cell b2 (by simp)
            go_region_held3 (fun w' => w'.cell? ⟨TB, 0, none⟩ = some (.int .i64 Z.start) ∧ w'.cell? ⟨TB, 1, none⟩ = some (.slice a1 Z.reads.length a2) ∧ w'.cell? ⟨TB, 2, none⟩ = some (.slice a3 Z.writes.length a4))
              (first | with_reducible exact ⟨e0, e1, e2⟩ | with_reducible exact ⟨f0, f1, f2⟩ | exact ⟨cell_trip f0 (Ne.symm nRT) _ _ _, cell_trip f1 (Ne.symm nRT) _ _ _, cell_trip f2 (Ne.symm nRT) _ _ _⟩)
              (first
                | (go_at_call 18; refine (CK.out _ hgd).mono ?_; rintro e w2 ⟨rfl, hg2⟩; have f0 := hg2.cell e0 (by simp); have f1 := hg2.cell e1 (by simp); have f2 := hg2.cell e2 (by simp); have hgd2 := grown_trans hgd hg2; have hR := pair_old hgd2 HRB.out; have hRR := trip_room2 hR; obtain ⟨⟨k0, k1, k2⟩, k3, k4, k5⟩ := hRR; have HR2 : Hid (w2.heap[RB]? = some (.cells #[.int .i64 0, .slice none 0 0, .slice none 0 0] 28)) := hR; clear hR))
            all_goals (
              have NS := trip_set HR2.out (.int .i64 Z.start) (.slice a1 Z.reads.length a2) (.slice a3 Z.writes.length a4)
              obtain ⟨⟨g0, g1, g2⟩, _⟩ := trip_room2 NS
              have NX : Hid (TxIs (setTrip w2 RB (.int .i64 Z.start) (.slice a1 Z.reads.length a2) (.slice a3 Z.writes.length a4)) (.agg #[.int .i64 Z.start, .slice a1 Z.reads.length a2, .slice a3 Z.writes.length a4]) Z) := (H3.out.grown hgd2).setTrip HR2.out (noByte_tx _ _ _ _ _ _ _) _ _ _
              have NG : Hid (w.grownBy (setTrip w2 RB (.int .i64 Z.start) (.slice a1 Z.reads.length a2) (.slice a3 Z.writes.length a4)) none) := grown_setNew (grown_setNew (grown_setNew (grown_trans hg hgd2) _ wRB _ _) _ wRB _ _) _ wRB _ _
              clear NS
              go_wp2
              refine bodyPost_ret (v := .tuple #[.agg #[.int .i64 Z.start, .slice a1 Z.reads.length a2, .slice a3 Z.writes.length a4], .bool true]) (by simp [results, Try.results7, go_sem, g0, g1, g2]) rfl ?_
              exact ⟨_, _, _, _, rfl, NX.out, NG.out⟩)
    · have i1 : ¬ (i : Int) < (ws.length : Int) := by omega
      have HMW : Hid (mkW (ws.take i) = mkW (ws.take 8)) := by
        show _ = _
        rw [List.take_of_length_le (by omega : ws.length ≤ i), List.take_of_length_le (by omega : ws.length ≤ 8)]
      have hOK0 := mkW_ok ws i (by omega) (by omega)
      have HOK : Hid (TxOK (mkW (ws.take i)) ∧ (mkW (ws.take i)).reads = []) := ⟨hOK0.ok, hOK0.none⟩
      rw [HMW.out] at HOK hT hX
      obtain ⟨T0, hT0⟩ : ∃ T0, T0 = mkW (ws.take 8) := ⟨_, rfl⟩
      rw [← hT0] at HOK hT hX HZ
      have HT9 : Hid (wr.heap[TB]? = some (.cells #[.int .i64 T0.start, .slice r1 T0.reads.length r2, .slice r3 T0.writes.length r4] 28)) := hT
      have HX9 : Hid (TxIs wr (.agg #[.int .i64 T0.start, .slice r1 T0.reads.length r2, .slice r3 T0.writes.length r4]) T0) := hX
      have HR9 : Hid (wr.heap[RB]? = some (.cells #[.int .i64 0, .slice none 0 0, .slice none 0 0] 28)) := hRb
      clear hT hX hRb hOK0 hT0 HMW KW TW HV HFW
      go_wp2_with fail
      go_loopw [10, 11, 12, 13] (fun s10 _ _ _ wr => ∃ j : Nat, s10 = .int .i64 (j : Int) ∧ j ≤ rs.length ∧ j ≤ 8 ∧ (∃ r1 r2 r3 r4, wr.heap[TB]? = some (.cells #[.int .i64 (mkN T0 (rs.take j)).start, .slice r1 (mkN T0 (rs.take j)).reads.length r2, .slice r3 (mkN T0 (rs.take j)).writes.length r4] 28) ∧ TxIs wr (.agg #[.int .i64 (mkN T0 (rs.take j)).start, .slice r1 (mkN T0 (rs.take j)).reads.length r2, .slice r3 (mkN T0 (rs.take j)).writes.length r4]) (mkN T0 (rs.take j))) ∧ wr.heap[RB]? = some (.cells #[.int .i64 0, .slice none 0 0, .slice none 0 0] 28) ∧ w.grownBy wr none) (fun s10 _ _ _ _ => 8 - (intOf s10).toNat)
      case atStart => exact ⟨0, rfl, by omega, by omega, ⟨r1, r2, r3, r4, HT9.out, HX9.out⟩, HR9.out, hg⟩
      case round =>
        clear HT9 HX9 HR9 hg
        obtain ⟨j, rfl, hj1, hj2, ⟨a1, a2, a3, a4, hT, hX⟩, hRb, hg⟩ := hrel
        have hread0 : T0.reads.length = 0 := by rw [HOK.out.2]; rfl
        have hNj := mkN_ok HOK.out.1 rs j hj1 (by rw [hread0]; omega)
        by_cases hlt : j < rs.length
        · have j1 : (j : Int) < (rs.length : Int) := by omega
          by_cases hlt8 : j < 8
          · have j2 : (j : Int) < 8 := by omega
            obtain ⟨hE0, hN2⟩ := txN_step hNj (by rw [hread0]; omega) (readF_ok (rs.getD j noPlc))
            have hmk := mkN_take T0 rs j hlt
            obtain ⟨b, o, rfl, y1, y2, y3, y4, y5, y6, ⟨x1w, x2w, x3w, x4w⟩, hpl⟩ := places_cells HU.out j hlt
            have q0 := hg.cell x1w (by simp)
            have q1 := hg.cell x2w (by simp)
            have q2 := hg.cell x3w (by simp)
            have q3 := hg.cell x4w (by simp)
            have hpf := HFR.out j hlt
            have HTB : Hid (wr.heap[TB]? = some (.cells #[.int .i64 (mkN T0 (rs.take j)).start, .slice a1 (mkN T0 (rs.take j)).reads.length a2, .slice a3 (mkN T0 (rs.take j)).writes.length a4] 28)) := hT
            have H3 : Hid (TxIs wr (.agg #[.int .i64 (mkN T0 (rs.take j)).start, .slice a1 (mkN T0 (rs.take j)).reads.length a2, .slice a3 (mkN T0 (rs.take j)).writes.length a4]) (mkN T0 (rs.take j))) := hX
            have HRB : Hid (wr.heap[RB]? = some (.cells #[.int .i64 0, .slice none 0 0, .slice none 0 0] 28)) := hRb
            have RC : Hid (Calls Try.prog 16 #[.agg #[.slice y1 (rs.getD j noPlc).name.length y2, .slice y3 (rs.getD j noPlc).key.length y4, .slice y5 (rs.getD j noPlc).value.length y6, .bool (rs.getD j noPlc).gone]] wr fun e w'' => ∃ n1 n2 n3 n4 n5 n6, e = .returned (.agg #[.slice n1 (readF (rs.getD j noPlc)).name.length n2, .slice n3 (readF (rs.getD j noPlc)).key.length n4, .bool (readF (rs.getD j noPlc)).wide, .slice n5 (readF (rs.getD j noPlc)).last.length n6]) ∧ ReadIs w'' (.agg #[.slice n1 (readF (rs.getD j noPlc)).name.length n2, .slice n3 (readF (rs.getD j noPlc)).key.length n4, .bool (readF (rs.getD j noPlc)).wide, .slice n5 (readF (rs.getD j noPlc)).last.length n6]) (readF (rs.getD j noPlc)) ∧ wr.grownBy w'' none) := KR.out wr _ _ (hpl.grown hg) hpf
            have NT : Hid (∀ w' x y, TxIs w' x (mkN T0 (rs.take j)) → ReadIs w' y (readF (rs.getD j noPlc)) → Calls Try.prog 15 #[x, y] w' fun e w'' => ∃ a1 a2 a3 a4, e = .returned (.tuple #[.agg #[.int .i64 (noteT (mkN T0 (rs.take j)) (readF (rs.getD j noPlc))).start, .slice a1 (noteT (mkN T0 (rs.take j)) (readF (rs.getD j noPlc))).reads.length a2, .slice a3 (noteT (mkN T0 (rs.take j)) (readF (rs.getD j noPlc))).writes.length a4], .int .i64 0]) ∧ TxIs w'' (.agg #[.int .i64 (noteT (mkN T0 (rs.take j)) (readF (rs.getD j noPlc))).start, .slice a1 (noteT (mkN T0 (rs.take j)) (readF (rs.getD j noPlc))).reads.length a2, .slice a3 (noteT (mkN T0 (rs.take j)) (readF (rs.getD j noPlc))).writes.length a4]) (noteT (mkN T0 (rs.take j)) (readF (rs.getD j noPlc))) ∧ w'.grownBy w'' none) := fun w' x y h1 h2 => by
              have := TN.out w' x y _ _ h1 (txOK_fits hNj.ok) h2 (read_fits (readF_ok _))
              rw [hE0] at this
              exact this
            rw [← hmk] at NT
            obtain ⟨T, hT0⟩ : ∃ T, T = mkN T0 (rs.take (j + 1)) := ⟨_, rfl⟩
            rw [← hT0] at NT
            have HTT : Hid (T = mkN T0 (rs.take (j + 1))) := hT0
            clear hT0
            obtain ⟨⟨b0, b1, b2⟩, _⟩ := trip_room2 hT
            generalize (mkN T0 (rs.take j)).start = st at *
            generalize (mkN T0 (rs.take j)).reads.length = rl at *
            generalize (mkN T0 (rs.take j)).writes.length = wl at *
            generalize readF (rs.getD j noPlc) = RR at *
            generalize rs.getD j noPlc = P at *
            clear hT hX hRb hN2 hE0 hmk x1w x2w x3w x4w hpl hpf hNj
            go_wp2_with fail
            refine RC.out.mono ?_
            rintro e w2 ⟨n1, n2, n3, n4, n5, n6, rfl, h2, hg2⟩
            obtain ⟨W3, HW3, hg3, B3⟩ := alloc_namedX w2 (.cells #[.slice n1 RR.name.length n2, .slice n3 RR.key.length n4, .bool RR.wide, .slice n5 RR.last.length n6] 40)
            have hg23 := grown_trans hg2 hg3
            have HR3 : Hid (ReadIs W3 (.agg #[.slice n1 RR.name.length n2, .slice n3 RR.key.length n4, .bool RR.wide, .slice n5 RR.last.length n6]) RR) := h2.grown hg3
            clear h2 q0 q1 q2 q3 b0 b1 b2
            go_upto_region 13 with fail
            rw [← HW3.out]
            obtain ⟨QB, hQB⟩ : ∃ QB, QB = w2.heap.size := ⟨_, rfl⟩
            rw [← hQB] at B3 ⊢
            clear hQB HW3
            obtain ⟨b0, b1, b2⟩ := trip_room hg23 HTB.out
            obtain ⟨⟨q0, q1, q2, q3⟩, _⟩ := quad_room (grown_refl W3 none) B3.out
            go_wp2_with fail
            refine (NT.out _ _ _ (H3.out.grown hg23) HR3.out).mono ?_
            rintro e w4 ⟨z1, z2, z3, z4, rfl, h4, hg4⟩
            obtain ⟨W5, HW5, hg5, B5⟩ := alloc_namedX w4 (.cells #[.int .i64 T.start, .slice z1 T.reads.length z2, .slice z3 T.writes.length z4] 28)
            have hg35 := grown_trans hg4 hg5
            have hgx := grown_trans hg23 hg35
            have HX1 : Hid (TxIs W5 (.agg #[.int .i64 T.start, .slice z1 T.reads.length z2, .slice z3 T.writes.length z4]) T) := h4.grown hg5
            clear h4 b0 b1 b2 q0 q1 q2 q3
            go_upto_region 14 with fail
            rw [← HW5.out]
            obtain ⟨nb, hnbe⟩ : ∃ nb, nb = w4.heap.size := ⟨_, rfl⟩
            rw [← hnbe] at B5 ⊢
            clear hnbe HW5
            have hTc := pair_old hgx HTB.out
            obtain ⟨⟨n0, n1', n2'⟩, _⟩ := trip_room2 B5.out
            obtain ⟨⟨c0, c1, c2⟩, f0, f1, f2⟩ := trip_room2 hTc
            have NT2 : Hid ((setTrip W5 TB (.int .i64 T.start) (.slice z1 T.reads.length z2) (.slice z3 T.writes.length z4)).heap[TB]? = some (.cells #[.int .i64 T.start, .slice z1 T.reads.length z2, .slice z3 T.writes.length z4] 28)) := trip_set hTc _ _ _
            have NX2 : Hid (TxIs (setTrip W5 TB (.int .i64 T.start) (.slice z1 T.reads.length z2) (.slice z3 T.writes.length z4)) (.agg #[.int .i64 T.start, .slice z1 T.reads.length z2, .slice z3 T.writes.length z4]) T) := HX1.out.setTrip hTc (noByte_tx _ _ _ _ _ _ _) _ _ _
            have NR2 : Hid ((setTrip W5 TB (.int .i64 T.start) (.slice z1 T.reads.length z2) (.slice z3 T.writes.length z4)).heap[RB]? = some (.cells #[.int .i64 0, .slice none 0 0, .slice none 0 0] 28)) := set_apart (set_apart (set_apart (pair_old hgx HRB.out) nRT) nRT) nRT
            have NG2 : Hid (w.grownBy (setTrip W5 TB (.int .i64 T.start) (.slice z1 T.reads.length z2) (.slice z3 T.writes.length z4)) none) := grown_setNew (grown_setNew (grown_setNew (grown_trans hg hgx) _ wTB _ _) _ wTB _ _) _ wTB _ _
            clear hTc
            go_wp2_with fail
            rw [HTT.out] at NT2 NX2 NR2 NG2 ⊢
            go_roundw
            case rel =>
              first
                | exact ⟨j + 1, by go_num, by omega, by omega, ⟨z1, z2, z3, z4, NT2.out, NX2.out⟩, NR2.out, NG2.out⟩
                | ((repeat apply Exists.intro); refine ⟨⟨j + 1, ?_, by omega, by omega, ⟨z1, z2, z3, z4, NT2.out, NX2.out⟩, NR2.out, NG2.out⟩, rfl⟩; go_num)
            case measure => simp [intOf]; omega
          · have j2 : ¬ (j : Int) < 8 := by omega
            have hj8 : j = 8 := by omega
            have HMN : Hid (mkN T0 (rs.take j) = Z) := by show _ = _; rw [HZ.out, hj8]
            have HZOK : Hid (TxOK Z) := by show TxOK Z; rw [← HMN.out]; exact hNj.ok
            rw [HMN.out] at hT hX
            have HTB : Hid (wr.heap[TB]? = some (.cells #[.int .i64 Z.start, .slice a1 Z.reads.length a2, .slice a3 Z.writes.length a4] 28)) := hT
            have H3 : Hid (TxIs wr (.agg #[.int .i64 Z.start, .slice a1 Z.reads.length a2, .slice a3 Z.writes.length a4]) Z) := hX
            have HRB : Hid (wr.heap[RB]? = some (.cells #[.int .i64 0, .slice none 0 0, .slice none 0 0] 28)) := hRb
            have CK : Hid (∀ w', wr.grownBy w' none → Calls Try.prog 18 #[.agg #[.int .i64 Z.start, .slice a1 Z.reads.length a2, .slice a3 Z.writes.length a4]] w' fun e w'' => e = .returned (.int .i64 0) ∧ w'.grownBy w'' none) := fun w' h => TC.out w' _ Z (H3.out.grown h) HZOK.out
            obtain ⟨b0, b1, b2⟩ := trip_room (grown_refl wr none) HTB.out
            clear hT hX hRb hNj HMN HZ TN KR
            go_upto_region 17 with fail
            have hgd := grown_drew (grown_refl wr none)
            have e0 := hgd.cell b0 (by simp)
            have e1 := hgd.cell b1 (by simp)
            have e2 := hgd.cell b2 (by simp)
            go_region_held3 (fun w' => w'.cell? ⟨TB, 0, none⟩ = some (.int .i64 Z.start) ∧ w'.cell? ⟨TB, 1, none⟩ = some (.slice a1 Z.reads.length a2) ∧ w'.cell? ⟨TB, 2, none⟩ = some (.slice a3 Z.writes.length a4))
              (first | with_reducible exact ⟨e0, e1, e2⟩ | with_reducible exact ⟨f0, f1, f2⟩ | exact ⟨cell_trip f0 (Ne.symm nRT) _ _ _, cell_trip f1 (Ne.symm nRT) _ _ _, cell_trip f2 (Ne.symm nRT) _ _ _⟩)
              (first
                | (go_at_call 18; refine (CK.out _ hgd).mono ?_; rintro e w2 ⟨rfl, hg2⟩; have f0 := hg2.cell e0 (by simp); have f1 := hg2.cell e1 (by simp); have f2 := hg2.cell e2 (by simp); have hgd2 := grown_trans hgd hg2; have hR := pair_old hgd2 HRB.out; have hRR := trip_room2 hR; obtain ⟨⟨k0, k1, k2⟩, k3, k4, k5⟩ := hRR; have HR2 : Hid (w2.heap[RB]? = some (.cells #[.int .i64 0, .slice none 0 0, .slice none 0 0] 28)) := hR; clear hR))
            all_goals (
              have NS := trip_set HR2.out (.int .i64 Z.start) (.slice a1 Z.reads.length a2) (.slice a3 Z.writes.length a4)
              obtain ⟨⟨g0, g1, g2⟩, _⟩ := trip_room2 NS
              have NX : Hid (TxIs (setTrip w2 RB (.int .i64 Z.start) (.slice a1 Z.reads.length a2) (.slice a3 Z.writes.length a4)) (.agg #[.int .i64 Z.start, .slice a1 Z.reads.length a2, .slice a3 Z.writes.length a4]) Z) := (H3.out.grown hgd2).setTrip HR2.out (noByte_tx _ _ _ _ _ _ _) _ _ _
              have NG : Hid (w.grownBy (setTrip w2 RB (.int .i64 Z.start) (.slice a1 Z.reads.length a2) (.slice a3 Z.writes.length a4)) none) := grown_setNew (grown_setNew (grown_setNew (grown_trans hg hgd2) _ wRB _ _) _ wRB _ _) _ wRB _ _
              clear NS
              go_wp2
              refine bodyPost_ret (v := .tuple #[.agg #[.int .i64 Z.start, .slice a1 Z.reads.length a2, .slice a3 Z.writes.length a4], .bool true]) (by simp [results, Try.results7, go_sem, g0, g1, g2]) rfl ?_
              exact ⟨_, _, _, _, rfl, NX.out, NG.out⟩)
        · have j1 : ¬ (j : Int) < (rs.length : Int) := by omega
          have HMN : Hid (mkN T0 (rs.take j) = Z) := by
            show _ = _
            rw [HZ.out, List.take_of_length_le (by omega : rs.length ≤ j), List.take_of_length_le (by omega : rs.length ≤ 8)]
          have HZOK : Hid (TxOK Z) := by show TxOK Z; rw [← HMN.out]; exact hNj.ok
          rw [HMN.out] at hT hX
          have HTB : Hid (wr.heap[TB]? = some (.cells #[.int .i64 Z.start, .slice a1 Z.reads.length a2, .slice a3 Z.writes.length a4] 28)) := hT
          have H3 : Hid (TxIs wr (.agg #[.int .i64 Z.start, .slice a1 Z.reads.length a2, .slice a3 Z.writes.length a4]) Z) := hX
          have HRB : Hid (wr.heap[RB]? = some (.cells #[.int .i64 0, .slice none 0 0, .slice none 0 0] 28)) := hRb
          have CK : Hid (∀ w', wr.grownBy w' none → Calls Try.prog 18 #[.agg #[.int .i64 Z.start, .slice a1 Z.reads.length a2, .slice a3 Z.writes.length a4]] w' fun e w'' => e = .returned (.int .i64 0) ∧ w'.grownBy w'' none) := fun w' h => TC.out w' _ Z (H3.out.grown h) HZOK.out
          obtain ⟨b0, b1, b2⟩ := trip_room (grown_refl wr none) HTB.out
          clear hT hX hRb hNj HMN HZ TN KR
          go_upto_region 17 with fail
          have hgd := grown_drew (grown_refl wr none)
          have e0 := hgd.cell b0 (by simp)
          have e1 := hgd.cell b1 (by simp)
          have e2 := hgd.cell b2 (by simp)
          go_region_held3 (fun w' => w'.cell? ⟨TB, 0, none⟩ = some (.int .i64 Z.start) ∧ w'.cell? ⟨TB, 1, none⟩ = some (.slice a1 Z.reads.length a2) ∧ w'.cell? ⟨TB, 2, none⟩ = some (.slice a3 Z.writes.length a4))
            (first | with_reducible exact ⟨e0, e1, e2⟩ | with_reducible exact ⟨f0, f1, f2⟩ | exact ⟨cell_trip f0 (Ne.symm nRT) _ _ _, cell_trip f1 (Ne.symm nRT) _ _ _, cell_trip f2 (Ne.symm nRT) _ _ _⟩)
            (first
              | (go_at_call 18; refine (CK.out _ hgd).mono ?_; rintro e w2 ⟨rfl, hg2⟩; have f0 := hg2.cell e0 (by simp); have f1 := hg2.cell e1 (by simp); have f2 := hg2.cell e2 (by simp); have hgd2 := grown_trans hgd hg2; have hR := pair_old hgd2 HRB.out; have hRR := trip_room2 hR; obtain ⟨⟨k0, k1, k2⟩, k3, k4, k5⟩ := hRR; have HR2 : Hid (w2.heap[RB]? = some (.cells #[.int .i64 0, .slice none 0 0, .slice none 0 0] 28)) := hR; clear hR))
          all_goals (
            have NS := trip_set HR2.out (.int .i64 Z.start) (.slice a1 Z.reads.length a2) (.slice a3 Z.writes.length a4)
            obtain ⟨⟨g0, g1, g2⟩, _⟩ := trip_room2 NS
            have NX : Hid (TxIs (setTrip w2 RB (.int .i64 Z.start) (.slice a1 Z.reads.length a2) (.slice a3 Z.writes.length a4)) (.agg #[.int .i64 Z.start, .slice a1 Z.reads.length a2, .slice a3 Z.writes.length a4]) Z) := (H3.out.grown hgd2).setTrip HR2.out (noByte_tx _ _ _ _ _ _ _) _ _ _
            have NG : Hid (w.grownBy (setTrip w2 RB (.int .i64 Z.start) (.slice a1 Z.reads.length a2) (.slice a3 Z.writes.length a4)) none) := grown_setNew (grown_setNew (grown_setNew (grown_trans hg hgd2) _ wRB _ _) _ wRB _ _) _ wRB _ _
            clear NS
            go_wp2
            refine bodyPost_ret (v := .tuple #[.agg #[.int .i64 Z.start, .slice a1 Z.reads.length a2, .slice a3 Z.writes.length a4], .bool true]) (by simp [results, Try.results7, go_sem, g0, g1, g2]) rfl ?_
            exact ⟨_, _, _, _, rfl, NX.out, NG.out⟩)
end Go.Proofs.Ytpmfbfflacbmjac
