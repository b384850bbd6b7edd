/-
  The walk of canopykeep.NoteFull, over what the code must keep.
-/
import Derived.Test.YtpmfbfflacbmjabPart2
import Derived.Test.YtpmfbfflacbmjabPicked
namespace Go.Proofs.Ytpmfbfflacbmjab
open Go.RowKit
theorem txOK_fitsF {t : Tx} (h : TxOK t) : FitsX t := by
  have h1 := h.start
  have h2 := h.reads
  have h3 := h.writes
  refine ⟨by omega, ⟨by omega, fun i hi => read_fits ?_⟩, ⟨by omega, fun i hi => ?_⟩⟩
  · have := h.each t.reads[i] (List.getElem_mem hi)
    rwa [show t.reads[i] = t.reads.getD i noRd by simp [hi]] at this
  · have := h.wrs t.writes[i] (List.getElem_mem hi)
    rw [show t.writes[i] = t.writes.getD i noPlc by simp [hi]] at this
    obtain ⟨g1, g2, g3⟩ := (writeE_iff _).1 this
    refine ⟨by omega, by omega, ?_⟩
    by_cases hg : (t.writes.getD i noPlc).gone = true
    · rw [if_pos hg] at g3; rw [g3]; simp
    · rw [if_neg hg] at g3; omega
/-- Two slices of one byte each, as two literals lay them. -/
theorem two_lits (w : World) (k : Nat) (hk : k < 256) (W : World) (hW : W = (w.alloc (.cells #[.int .u8 1] 5)).alloc (.cells #[.int .u8 (k : Int)] 5)) :
    SliceIs W (.slice (some ⟨w.heap.size, 0, none⟩) 1 1) [1] ∧ SliceIs W (.slice (some ⟨w.heap.size + 1, 0, none⟩) 1 1) [UInt8.ofNat k] ∧ w.grownBy W none := by
  have s1 := one_slice w 1 5
  have s2 := one_slice (w.alloc (.cells #[.int .u8 1] 5)) (UInt8.ofNat k) 5
  rw [World.size_alloc, show (((UInt8.ofNat k).toNat : Nat) : Int) = (k : Int) by simp; omega] at s2
  rw [hW]
  exact ⟨s1.alloc _, s2, grown_alloc (World.grownBy_alloc _ _ _) _⟩
set_option maxRecDepth 100000 in
set_option maxHeartbeats 4000000 in
theorem noteFull_walk (hW : TxWriteOK) (hN : TxNoteOK) (w : World) (n : Int) (hn1 : -9223372036854775808 ≤ n) (hn2 : n ≤ 9223372036854775807) :
    Calls Try.prog 8 #[.int .i64 n] w fun e w' => e = .returned (.bool true) ∧ w.grownBy w' none := by
  have TN : Hid (∀ w' x y t r, TxIs w' x t → TxOK t → ReadIs w' y r → readE r = 0 → Calls Try.prog 25 #[x, y] w' fun e w'' => ∃ a1 a2 a3 a4, e = .returned (.tuple #[.agg #[.int .i64 (noteT t r).start, .slice a1 (noteT t r).reads.length a2, .slice a3 (noteT t r).writes.length a4], .int .i64 (noteE t r)]) ∧ TxIs w'' (.agg #[.int .i64 (noteT t r).start, .slice a1 (noteT t r).reads.length a2, .slice a3 (noteT t r).writes.length a4]) (noteT t r) ∧ w'.grownBy w'' none) := fun w' x y t r h1 h2 h3 h4 => by
    refine (hN w' x y t r h1 (txOK_fitsF h2) h3 (read_fits h4)).mono ?_
    rintro e w'' ⟨x, rfl, hx, hg⟩
    obtain ⟨a1, a2, a3, a4, rfl⟩ := hx.agg
    exact ⟨a1, a2, a3, a4, rfl, hx, hg⟩
  have TW : Hid (∀ w' x y t p, TxIs w' x t → TxOK t → WriteIs w' y p → PlcFits p → Calls Try.prog 12 #[x, y] w' fun e w'' => ∃ a1 a2 a3 a4, e = .returned (.tuple #[.agg #[.int .i64 (twriteT t p).start, .slice a1 (twriteT t p).reads.length a2, .slice a3 (twriteT t p).writes.length a4], .int .i64 (twriteE t p)]) ∧ TxIs w'' (.agg #[.int .i64 (twriteT t p).start, .slice a1 (twriteT t p).reads.length a2, .slice a3 (twriteT t p).writes.length a4]) (twriteT t p) ∧ w'.grownBy w'' none) := fun w' x y t p h1 h2 h3 h4 => by
    refine (hW w' x y t p h1 (txOK_fitsF h2) h3 h4).mono ?_
    rintro e w'' ⟨x, rfl, hx, hg⟩
    obtain ⟨a1, a2, a3, a4, rfl⟩ := hx.agg
    exact ⟨a1, a2, a3, a4, rfl, hx, hg⟩
  obtain ⟨W2, HW2, hg02, B2⟩ := alloc_namedX w (.cells #[.int .i64 0, .slice none 0 0, .slice none 0 0] 31)
  clear hW hN
  go_enter Try.func8, Try.ntmps8
  go_upto_region 2 with fail
  rw [← HW2.out]
  obtain ⟨TB, hTB⟩ : ∃ TB, TB = w.heap.size := ⟨_, rfl⟩
  have wTB : w.heap.size ≤ TB := by omega
  rw [← hTB] at B2 ⊢
  clear hTB HW2
  go_wp2_with fail
  go_loopw [4, 5, 6] (fun s4 _ _ wr => ∃ i : Nat, s4 = .int .i64 (i : Int) ∧ i ≤ 20 ∧ (∃ r1 r2 r3 r4, wr.heap[TB]? = some (.cells #[.int .i64 (nT i 0).start, .slice r1 (nT i 0).reads.length r2, .slice r3 (nT i 0).writes.length r4] 31) ∧ TxIs wr (.agg #[.int .i64 (nT i 0).start, .slice r1 (nT i 0).reads.length r2, .slice r3 (nT i 0).writes.length r4]) (nT i 0)) ∧ w.grownBy wr none) (fun s4 _ _ _ => 20 - (intOf s4).toNat)
  case atStart => exact ⟨0, rfl, by omega, ⟨none, 0, none, 0, B2.out, txIs_no _⟩, hg02⟩
  case round =>
    obtain ⟨j, rfl, hj, ⟨a1, a2, a3, a4, hT, hX⟩, hg⟩ := hrel
    by_cases hlt : j < 20
    · have j1 : (j : Int) < 20 := by omega
      have hok := nT_read j (by omega)
      obtain ⟨hE0, hmk⟩ := nT_note j hlt hok
      obtain ⟨W3, hW3⟩ : ∃ W3 : World, W3 = (wr.alloc (.cells #[.int .u8 1] 5)).alloc (.cells #[.int .u8 (j : Int)] 5) := ⟨_, rfl⟩
      obtain ⟨l1, l2, hg3⟩ := two_lits wr j (by omega) W3 hW3
      have HW3 : Hid (W3 = (wr.alloc (.cells #[.int .u8 1] 5)).alloc (.cells #[.int .u8 (j : Int)] 5)) := hW3
      have NT : Hid (Calls Try.prog 25 #[.agg #[.int .i64 (nT j 0).start, .slice a1 (nT j 0).reads.length a2, .slice a3 (nT j 0).writes.length a4], .agg #[.slice (some ⟨wr.heap.size, 0, none⟩) 1 1, .slice (some ⟨wr.heap.size + 1, 0, none⟩) 1 1, .bool false, .slice none 0 0]] W3 fun e w'' => ∃ a1 a2 a3 a4, e = .returned (.tuple #[.agg #[.int .i64 (nT (j + 1) 0).start, .slice a1 (nT (j + 1) 0).reads.length a2, .slice a3 (nT (j + 1) 0).writes.length a4], .int .i64 0]) ∧ TxIs w'' (.agg #[.int .i64 (nT (j + 1) 0).start, .slice a1 (nT (j + 1) 0).reads.length a2, .slice a3 (nT (j + 1) 0).writes.length a4]) (nT (j + 1) 0) ∧ W3.grownBy w'' none) := by
        have := TN.out W3 _ _ (nT j 0) (nRd j) (hX.grown hg3) hok ⟨_, _, _, rfl, l1, l2, sliceIs_nil _⟩ (nRd_ok j)
        rw [hE0, hmk] at this
        exact this
      have HTB : Hid (wr.heap[TB]? = some (.cells #[.int .i64 (nT j 0).start, .slice a1 (nT j 0).reads.length a2, .slice a3 (nT j 0).writes.length a4] 31)) := hT
      obtain ⟨T, hT0⟩ : ∃ T, T = nT (j + 1) 0 := ⟨_, rfl⟩
      rw [← hT0] at NT
      have HTT : Hid (T = nT (j + 1) 0) := hT0
      obtain ⟨⟨b0, b1, b2⟩, _⟩ := trip_room2 hT
      generalize (nT j 0).start = st at *
      generalize (nT j 0).reads.length = rl at *
      generalize (nT j 0).writes.length = wl at *
      clear hT hX hok hE0 hmk l1 l2 hW3 hT0
      go_wp2_with fail
      rw [← HW3.out]
      refine NT.out.mono ?_
      rintro e w4 ⟨z1, z2, z3, z4, rfl, h4, hg4⟩
      obtain ⟨W5, HW5, hg5, B5⟩ := alloc_namedX w4 (.cells #[.int .i64 T.start, .slice z1 T.reads.length z2, .slice z3 T.writes.length z4] 31)
      have hgx := grown_trans hg3 (grown_trans hg4 hg5)
      have HX1 : Hid (TxIs W5 (.agg #[.int .i64 T.start, .slice z1 T.reads.length z2, .slice z3 T.writes.length z4]) T) := h4.grown hg5
      clear h4 b0 b1 b2
      go_upto_region 6 with fail
      rw [← HW5.out]
      obtain ⟨nb, hnbe⟩ : ∃ nb, nb = w4.heap.size := ⟨_, rfl⟩
      rw [← hnbe] at B5 ⊢
      clear hnbe HW5
      have hTc := pair_old hgx HTB.out
      obtain ⟨⟨n0, n1', n2'⟩, _⟩ := trip_room2 B5.out
      obtain ⟨⟨c0, c1, c2⟩, f0, f1, f2⟩ := trip_room2 hTc
      have NT2 : Hid ((setTrip W5 TB (.int .i64 T.start) (.slice z1 T.reads.length z2) (.slice z3 T.writes.length z4)).heap[TB]? = some (.cells #[.int .i64 T.start, .slice z1 T.reads.length z2, .slice z3 T.writes.length z4] 31)) := trip_set hTc _ _ _
      have NX2 : Hid (TxIs (setTrip W5 TB (.int .i64 T.start) (.slice z1 T.reads.length z2) (.slice z3 T.writes.length z4)) (.agg #[.int .i64 T.start, .slice z1 T.reads.length z2, .slice z3 T.writes.length z4]) T) := HX1.out.setTrip hTc (noByte_tx _ _ _ _ _ _ _) _ _ _
      have NG2 : Hid (w.grownBy (setTrip W5 TB (.int .i64 T.start) (.slice z1 T.reads.length z2) (.slice z3 T.writes.length z4)) none) := grown_setNew (grown_setNew (grown_setNew (grown_trans hg hgx) _ wTB _ _) _ wTB _ _) _ wTB _ _
      clear hTc NT
      go_wp2_with fail
      rw [HTT.out] at NT2 NX2 NG2 ⊢
      go_roundw
      case rel =>
        first
          | exact ⟨j + 1, by go_num, by omega, ⟨z1, z2, z3, z4, NT2.out, NX2.out⟩, NG2.out⟩
          | ((repeat apply Exists.intro); refine ⟨⟨j + 1, ?_, by omega, ⟨z1, z2, z3, z4, NT2.out, NX2.out⟩, NG2.out⟩, rfl⟩; go_num)
      case measure => simp [intOf]; omega
    · obtain rfl : j = 20 := by omega
      have HT9 : Hid (wr.heap[TB]? = some (.cells #[.int .i64 (nT 20 0).start, .slice a1 (nT 20 0).reads.length a2, .slice a3 (nT 20 0).writes.length a4] 31)) := hT
      have HX9 : Hid (TxIs wr (.agg #[.int .i64 (nT 20 0).start, .slice a1 (nT 20 0).reads.length a2, .slice a3 (nT 20 0).writes.length a4]) (nT 20 0)) := hX
      clear hT hX hlt
      go_wp2_with fail
      go_loopw [7, 8, 9] (fun s7 _ _ wr => ∃ i : Nat, s7 = .int .i64 (i : Int) ∧ i ≤ 10 ∧ (∃ r1 r2 r3 r4, wr.heap[TB]? = some (.cells #[.int .i64 (nT 20 i).start, .slice r1 (nT 20 i).reads.length r2, .slice r3 (nT 20 i).writes.length r4] 31) ∧ TxIs wr (.agg #[.int .i64 (nT 20 i).start, .slice r1 (nT 20 i).reads.length r2, .slice r3 (nT 20 i).writes.length r4]) (nT 20 i)) ∧ w.grownBy wr none) (fun s7 _ _ _ => 10 - (intOf s7).toNat)
      case atStart => exact ⟨0, rfl, by omega, ⟨a1, a2, a3, a4, HT9.out, HX9.out⟩, hg⟩
      case round =>
        clear HT9 HX9 hg
        obtain ⟨j, rfl, hj, ⟨a1, a2, a3, a4, hT, hX⟩, hg⟩ := hrel
        by_cases hlt : j < 10
        · have j1 : (j : Int) < 10 := by omega
          have hok := nT_both j (by omega)
          obtain ⟨hE0, hmk⟩ := nT_write j hlt hok
          obtain ⟨W3, hW3⟩ : ∃ W3 : World, W3 = (wr.alloc (.cells #[.int .u8 1] 5)).alloc (.cells #[.int .u8 (j : Int)] 5) := ⟨_, rfl⟩
          obtain ⟨l1, l2, hg3⟩ := two_lits wr j (by omega) W3 hW3
          have HW3 : Hid (W3 = (wr.alloc (.cells #[.int .u8 1] 5)).alloc (.cells #[.int .u8 (j : Int)] 5)) := hW3
          have NT : Hid (Calls Try.prog 12 #[.agg #[.int .i64 (nT 20 j).start, .slice a1 (nT 20 j).reads.length a2, .slice a3 (nT 20 j).writes.length a4], .agg #[.slice (some ⟨wr.heap.size, 0, none⟩) 1 1, .slice (some ⟨wr.heap.size + 1, 0, none⟩) 1 1, .bool false, .slice none 0 0]] W3 fun e w'' => ∃ a1 a2 a3 a4, e = .returned (.tuple #[.agg #[.int .i64 (nT 20 (j + 1)).start, .slice a1 (nT 20 (j + 1)).reads.length a2, .slice a3 (nT 20 (j + 1)).writes.length a4], .int .i64 0]) ∧ TxIs w'' (.agg #[.int .i64 (nT 20 (j + 1)).start, .slice a1 (nT 20 (j + 1)).reads.length a2, .slice a3 (nT 20 (j + 1)).writes.length a4]) (nT 20 (j + 1)) ∧ W3.grownBy w'' none) := by
            have := TW.out W3 _ _ (nT 20 j) (nWr j) (hX.grown hg3) hok ⟨_, _, _, rfl, l1, l2, sliceIs_nil _⟩ ⟨by simp [nWr], by simp [nWr], by simp [nWr]⟩
            rw [hE0, hmk] at this
            exact this
          have HTB : Hid (wr.heap[TB]? = some (.cells #[.int .i64 (nT 20 j).start, .slice a1 (nT 20 j).reads.length a2, .slice a3 (nT 20 j).writes.length a4] 31)) := hT
          obtain ⟨T, hT0⟩ : ∃ T, T = nT 20 (j + 1) := ⟨_, rfl⟩
          rw [← hT0] at NT
          have HTT : Hid (T = nT 20 (j + 1)) := hT0
          obtain ⟨⟨b0, b1, b2⟩, _⟩ := trip_room2 hT
          generalize (nT 20 j).start = st at *
          generalize (nT 20 j).reads.length = rl at *
          generalize (nT 20 j).writes.length = wl at *
          clear hT hX hok hE0 hmk l1 l2 hW3 hT0
          go_wp2_with fail
          rw [← HW3.out]
          refine NT.out.mono ?_
          rintro e w4 ⟨z1, z2, z3, z4, rfl, h4, hg4⟩
          obtain ⟨W5, HW5, hg5, B5⟩ := alloc_namedX w4 (.cells #[.int .i64 T.start, .slice z1 T.reads.length z2, .slice z3 T.writes.length z4] 31)
          have hgx := grown_trans hg3 (grown_trans hg4 hg5)
          have HX1 : Hid (TxIs W5 (.agg #[.int .i64 T.start, .slice z1 T.reads.length z2, .slice z3 T.writes.length z4]) T) := h4.grown hg5
          clear h4 b0 b1 b2
          go_upto_region 13 with fail
          rw [← HW5.out]
          obtain ⟨nb, hnbe⟩ : ∃ nb, nb = w4.heap.size := ⟨_, rfl⟩
          rw [← hnbe] at B5 ⊢
          clear hnbe HW5
          have hTc := pair_old hgx HTB.out
          obtain ⟨⟨n0, n1', n2'⟩, _⟩ := trip_room2 B5.out
          obtain ⟨⟨c0, c1, c2⟩, f0, f1, f2⟩ := trip_room2 hTc
          have NT2 : Hid ((setTrip W5 TB (.int .i64 T.start) (.slice z1 T.reads.length z2) (.slice z3 T.writes.length z4)).heap[TB]? = some (.cells #[.int .i64 T.start, .slice z1 T.reads.length z2, .slice z3 T.writes.length z4] 31)) := trip_set hTc _ _ _
          have NX2 : Hid (TxIs (setTrip W5 TB (.int .i64 T.start) (.slice z1 T.reads.length z2) (.slice z3 T.writes.length z4)) (.agg #[.int .i64 T.start, .slice z1 T.reads.length z2, .slice z3 T.writes.length z4]) T) := HX1.out.setTrip hTc (noByte_tx _ _ _ _ _ _ _) _ _ _
          have NG2 : Hid (w.grownBy (setTrip W5 TB (.int .i64 T.start) (.slice z1 T.reads.length z2) (.slice z3 T.writes.length z4)) none) := grown_setNew (grown_setNew (grown_setNew (grown_trans hg hgx) _ wTB _ _) _ wTB _ _) _ wTB _ _
          clear hTc NT
          go_wp2_with fail
          rw [HTT.out] at NT2 NX2 NG2 ⊢
          go_roundw
          case rel =>
            first
              | exact ⟨j + 1, by go_num, by omega, ⟨z1, z2, z3, z4, NT2.out, NX2.out⟩, NG2.out⟩
              | ((repeat apply Exists.intro); refine ⟨⟨j + 1, ?_, by omega, ⟨z1, z2, z3, z4, NT2.out, NX2.out⟩, NG2.out⟩, rfl⟩; go_num)
          case measure => simp [intOf]; omega
        · obtain rfl : j = 10 := by omega
          have HTB : Hid (wr.heap[TB]? = some (.cells #[.int .i64 (nT 20 10).start, .slice a1 (nT 20 10).reads.length a2, .slice a3 (nT 20 10).writes.length a4] 31)) := hT
          have HX9 : Hid (TxIs wr (.agg #[.int .i64 (nT 20 10).start, .slice a1 (nT 20 10).reads.length a2, .slice a3 (nT 20 10).writes.length a4]) (nT 20 10)) := hX
          clear hT hX hlt
          go_wp2_with fail
          refine (picked_any n 256 wr hn1 hn2 (by omega) (by omega)).mono ?_
          rintro e w2 ⟨k, rfl, hk, rfl⟩
          have hk2 : k < 256 := by omega
          obtain ⟨fE1, fE2⟩ := nT_full k hk2
          have hok := nT_both 10 (Nat.le_refl _)
          obtain ⟨W3, hW3⟩ : ∃ W3 : World, W3 = (w2.alloc (.cells #[.int .u8 1] 5)).alloc (.cells #[.int .u8 (k : Int)] 5) := ⟨_, rfl⟩
          obtain ⟨l1, l2, hg3⟩ := two_lits w2 k hk2 W3 hW3
          have HW3 : Hid (W3 = (w2.alloc (.cells #[.int .u8 1] 5)).alloc (.cells #[.int .u8 (k : Int)] 5)) := hW3
          obtain ⟨E1, hE1⟩ : ∃ E1 : Int, E1 = if k < 20 then 0 else 11 := ⟨_, rfl⟩
          obtain ⟨E2, hE2⟩ : ∃ E2 : Int, E2 = if k < 10 then 0 else 11 := ⟨_, rfl⟩
          rw [← hE1] at fE1
          rw [← hE2] at fE2
          have HE1 : Hid (E1 = if k < 20 then 0 else 11) := hE1
          have HE2 : Hid (E2 = if k < 10 then 0 else 11) := hE2
          have NT : Hid (Calls Try.prog 25 #[.agg #[.int .i64 (nT 20 10).start, .slice a1 (nT 20 10).reads.length a2, .slice a3 (nT 20 10).writes.length a4], .agg #[.slice (some ⟨w2.heap.size, 0, none⟩) 1 1, .slice (some ⟨w2.heap.size + 1, 0, none⟩) 1 1, .bool false, .slice none 0 0]] W3 fun e w'' => ∃ st z1 l1 z2 z3 l3 z4, e = .returned (.tuple #[.agg #[.int .i64 st, .slice z1 l1 z2, .slice z3 l3 z4], .int .i64 E1]) ∧ W3.grownBy w'' none) := by
            rw [← fE1]
            exact (TN.out W3 _ _ (nT 20 10) (nRd k) (HX9.out.grown hg3) hok ⟨_, _, _, rfl, l1, l2, sliceIs_nil _⟩ (nRd_ok k)).mono (by rintro e w'' ⟨_, _, _, _, rfl, _, hg⟩; exact ⟨_, _, _, _, _, _, _, rfl, hg⟩)
          have NW : Hid (∀ Wx W6 : World, w2.grownBy Wx none → W6 = (Wx.alloc (.cells #[.int .u8 1] 5)).alloc (.cells #[.int .u8 (k : Int)] 5) → Calls Try.prog 12 #[.agg #[.int .i64 (nT 20 10).start, .slice a1 (nT 20 10).reads.length a2, .slice a3 (nT 20 10).writes.length a4], .agg #[.slice (some ⟨Wx.heap.size, 0, none⟩) 1 1, .slice (some ⟨Wx.heap.size + 1, 0, none⟩) 1 1, .bool true, .slice none 0 0]] W6 fun e w'' => ∃ st z1 l1 z2 z3 l3 z4, e = .returned (.tuple #[.agg #[.int .i64 st, .slice z1 l1 z2, .slice z3 l3 z4], .int .i64 E2]) ∧ Wx.grownBy w'' none) := fun Wx W6 gx hW6 => by
            obtain ⟨l1, l2, hg6⟩ := two_lits Wx k hk2 W6 hW6
            rw [← fE2]
            exact (TW.out W6 _ _ (nT 20 10) (gWr k) (HX9.out.grown (grown_trans gx hg6)) hok ⟨_, _, _, rfl, l1, l2, sliceIs_nil _⟩ ⟨by simp [gWr], by simp [gWr], by simp [gWr]⟩).mono (by rintro e w'' ⟨_, _, _, _, rfl, _, hg⟩; exact ⟨_, _, _, _, _, _, _, rfl, grown_trans hg6 hg⟩)
          have hTB0 := HTB.out
          obtain ⟨⟨b0, b1, b2⟩, _⟩ := trip_room2 hTB0
          clear hTB0 HX9 hok l1 l2 hW3 fE1 fE2 hE1 hE2 TN TW
          generalize (nT 20 10).start = st at *
          generalize (nT 20 10).reads.length = rl at *
          generalize (nT 20 10).writes.length = wl at *
          go_wp2_with fail
          rw [← HW3.out]
          refine NT.out.mono ?_
          rintro e w4 ⟨s5, z1, l1, z2, z3, l3, z4, rfl, hg4⟩
          obtain ⟨W5, HW5, hg5, B5⟩ := alloc_namedX w4 (.cells #[.int .i64 s5, .slice z1 l1 z2, .slice z3 l3 z4] 31)
          have hgx := grown_trans hg3 (grown_trans hg4 hg5)
          clear b0 b1 b2
          go_upto_region 18 with fail
          rw [← HW5.out]
          obtain ⟨nb, hnbe⟩ : ∃ nb, nb = w4.heap.size := ⟨_, rfl⟩
          rw [← hnbe] at B5 ⊢
          clear hnbe HW5
          have hTc := pair_old hgx HTB.out
          have HTB5 : Hid (_) := hTc
          obtain ⟨⟨c0, c1, c2⟩, f0, f1, f2⟩ := trip_room2 hTc
          obtain ⟨W6, hW6⟩ : ∃ W6 : World, W6 = (W5.alloc (.cells #[.int .u8 1] 5)).alloc (.cells #[.int .u8 (k : Int)] 5) := ⟨_, rfl⟩
          have NW6 : Hid (Calls Try.prog 12 #[.agg #[.int .i64 st, .slice a1 rl a2, .slice a3 wl a4], .agg #[.slice (some ⟨W5.heap.size, 0, none⟩) 1 1, .slice (some ⟨W5.heap.size + 1, 0, none⟩) 1 1, .bool true, .slice none 0 0]] W6 fun e w'' => ∃ st z1 l1 z2 z3 l3 z4, e = .returned (.tuple #[.agg #[.int .i64 st, .slice z1 l1 z2, .slice z3 l3 z4], .int .i64 E2]) ∧ W5.grownBy w'' none) := NW.out W5 W6 hgx hW6
          have HW6 : Hid (W6 = (W5.alloc (.cells #[.int .u8 1] 5)).alloc (.cells #[.int .u8 (k : Int)] 5)) := hW6
          clear hW6 hTc NT NW
          go_wp2_with fail
          rw [← HW6.out]
          refine NW6.out.mono ?_
          rintro e w7 ⟨s6, y1, l4, y2, y3, l5, y4, rfl, hg7⟩
          obtain ⟨W8, HW8, hg8, B8⟩ := alloc_namedX w7 (.cells #[.int .i64 s6, .slice y1 l4 y2, .slice y3 l5 y4] 31)
          have hgz := grown_trans hg (grown_trans hgx (grown_trans hg7 hg8))
          go_upto_region 19 with fail
          rw [← HW8.out]
          clear HW8 NW6
          by_cases k10 : k < 10
          · have k20 : k < 20 := by omega
            have i1 : (k : Int) < 20 := by omega
            have i2 : (k : Int) < 10 := by omega
            obtain rfl : E1 = 0 := by rw [HE1.out, if_pos k20]
            obtain rfl : E2 = 0 := by rw [HE2.out, if_pos k10]
            go_wp2
            go_ret
            exact ⟨rfl, hgz⟩
          · by_cases k20 : k < 20
            · have i1 : (k : Int) < 20 := by omega
              have i2 : ¬ (k : Int) < 10 := by omega
              obtain rfl : E1 = 0 := by rw [HE1.out, if_pos k20]
              obtain rfl : E2 = 11 := by rw [HE2.out, if_neg k10]
              go_wp2
              go_ret
              exact ⟨rfl, hgz⟩
            · have i1 : ¬ (k : Int) < 20 := by omega
              have i2 : ¬ (k : Int) < 10 := by omega
              obtain rfl : E1 = 11 := by rw [HE1.out, if_neg k20]
              obtain rfl : E2 = 11 := by rw [HE2.out, if_neg k10]
              go_wp2
              go_ret
              exact ⟨rfl, hgz⟩
end Go.Proofs.Ytpmfbfflacbmjab
