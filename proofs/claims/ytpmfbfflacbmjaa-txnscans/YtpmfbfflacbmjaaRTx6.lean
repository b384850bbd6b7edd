/-
  The walk of the document's TxnCopy: new memory.
-/
import Derived.Test.YtpmfbfflacbmjaaPart18
import Derived.Test.YtpmfbfflacbmjaaRTx3
namespace Go.Proofs.Ytpmfbfflacbmjaa
open Go.RowKit
set_option maxRecDepth 100000 in
set_option maxHeartbeats 4000000 in
theorem txnCopy_any (w : World) (v : Value) (t : Tx) (hv : TxIs w v t) (hf : FitsX t) :
    Calls Try.prog 9 #[v] w fun e w' => ∃ ra rc wa wc, e = .returned (.agg #[.int .i64 t.start, .slice ra t.reads.length rc, .slice wa t.writes.length wc]) ∧ OwnR w.heap.size 0 w' (.slice ra t.reads.length rc) t.reads ∧ OwnV w.heap.size 0 w' (.slice wa t.writes.length wc) t.writes ∧ w.grownBy w' none := by
  obtain ⟨ra, rc, wa, wc, rfl⟩ := hv.agg
  obtain ⟨_, hr, hw⟩ := hv.parts
  have HR : Hid (ReadsIs w (.slice ra t.reads.length rc) t.reads) := hr
  have HV : Hid (WritesIs w (.slice wa t.writes.length wc) t.writes) := hw
  have HFR : Hid (∀ i, i < t.reads.length → RdFits (t.reads.getD i noRd)) := hf.reads.each
  have HFW : Hid (∀ i, i < t.writes.length → PlcFits (t.writes.getD i noPlc)) := hf.writes.each
  have hrl := hf.reads.many
  have hwl := hf.writes.many
  clear hv hf hr hw
  generalize t.reads = R at *
  generalize t.writes = V at *
  generalize t.start = st at *
  obtain ⟨W1, HW1, hg1, B1⟩ := alloc_namedX w (.cells #[.int .i64 st, .slice ra R.length rc, .slice wa V.length wc] 25)
  obtain ⟨W2, HW2, hg2, B2⟩ := alloc_namedX W1 (.cells #[.int .i64 0, .slice none 0 0, .slice none 0 0] 25)
  obtain ⟨W3, HW3, hg3, B3⟩ := alloc_namedX W2 (.cells #[.int .i64 st, .slice none 0 0, .slice none 0 0] 25)
  have s1 : W1.heap.size = w.heap.size + 1 := by rw [HW1.out]; simp
  have s2 : W2.heap.size = w.heap.size + 1 + 1 := by rw [HW2.out]; simp [s1]
  obtain ⟨q0, q1, q2⟩ := trip_room hg2 B1.out
  rw [s1] at B2
  rw [s2] at B3
  have HX2 : Hid (W2 = (w.alloc (.cells #[.int .i64 st, .slice ra R.length rc, .slice wa V.length wc] 25)).alloc (.cells #[.int .i64 0, .slice none 0 0, .slice none 0 0] 25)) := by show _ = _; rw [HW2.out, HW1.out]
  have I3 : Hid (W3.heap[w.heap.size]? = some (.cells #[.int .i64 st, .slice ra R.length rc, .slice wa V.length wc] 25)) := pair_old (grown_trans hg2 hg3) B1.out
  have R3 : Hid (W3.heap[w.heap.size + 1]? = some (.cells #[.int .i64 0, .slice none 0 0, .slice none 0 0] 25)) := pair_old hg3 B2.out
  have hg03 := grown_trans hg1 (grown_trans hg2 hg3)
  have HS2 : Hid (W2.heap.size = w.heap.size + 1 + 1) := s2
  clear s1 s2 B1 B2
  go_enter Try.func9, Try.ntmps9
  go_upto_region 1 with fail
  rw [← HX2.out]
  go_upto_region 2 with fail
  rw [← HW3.out, HS2.out]
  obtain ⟨OB, hOB⟩ : ∃ OB, OB = w.heap.size + 1 + 1 := ⟨_, rfl⟩
  obtain ⟨RB, hRB⟩ : ∃ RB, RB = w.heap.size + 1 := ⟨_, rfl⟩
  obtain ⟨IB, hIB⟩ : ∃ IB, IB = w.heap.size := ⟨_, rfl⟩
  rw [← hOB] at B3 ⊢
  rw [← hRB] at R3 ⊢
  rw [← hIB] at I3 q0 q1 q2 ⊢
  have nIO : IB ≠ OB := by omega
  have nRO : RB ≠ OB := by omega
  have wOB : w.heap.size ≤ OB := by omega
  have wRB : w.heap.size ≤ RB := by omega
  clear hOB hRB hIB q0 q1 q2 HS2 HX2 HW1 HW2 HW3
  go_wp2_with fail
  go_loopw [4] (fun s4 wr => ∃ m : Nat, s4 = .int .i64 (m : Int) ∧ m ≤ R.length ∧ (∃ va vc, wr.heap[OB]? = some (.cells #[.int .i64 st, .slice va m vc, .slice none 0 0] 25) ∧ OwnR w.heap.size 0 wr (.slice va m vc) (R.take m)) ∧ wr.heap[IB]? = some (.cells #[.int .i64 st, .slice ra R.length rc, .slice wa V.length wc] 25) ∧ wr.heap[RB]? = some (.cells #[.int .i64 0, .slice none 0 0, .slice none 0 0] 25) ∧ w.grownBy wr none) (fun s4 _ => R.length - (intOf s4).toNat)
  case atStart => exact ⟨0, rfl, by omega, ⟨none, 0, B3.out, ownR_nil _ _ _⟩, I3.out, R3.out, hg03⟩
  case round =>
    obtain ⟨m, rfl, hm, ⟨va, vc, hO, hown⟩, hI, hRb, hg⟩ := hrel
    obtain ⟨⟨c0, c1, c2⟩, _⟩ := trip_room2 hI
    by_cases hlt : m < R.length
    · have i1 : (m : Int) < (R.length : Int) := by omega
      obtain ⟨b, o, rfl, y1, y2, y3, y4, y5, y6, ⟨x1w, x2w, x3w, x4w⟩, hrd⟩ := reads_cells HR.out m hlt
      have x1 := hg.cell x1w (by simp)
      have x2 := hg.cell x2w (by simp)
      have x3 := hg.cell x3w (by simp)
      have x4 := hg.cell x4w (by simp)
      have CP : Hid (Calls Try.prog 14 #[.agg #[.slice y1 (R.getD m noRd).name.length y2, .slice y3 (R.getD m noRd).key.length y4, .bool (R.getD m noRd).wide, .slice y5 (R.getD m noRd).last.length y6]] wr fun e w' => ∃ na nc ka kc la lc, e = .returned (.agg #[.slice na (R.getD m noRd).name.length nc, .slice ka (R.getD m noRd).key.length kc, .bool (R.getD m noRd).wide, .slice la (R.getD m noRd).last.length lc]) ∧ PartIs 0 w' (.slice na (R.getD m noRd).name.length nc) (R.getD m noRd).name ∧ PartIs 0 w' (.slice ka (R.getD m noRd).key.length kc) (R.getD m noRd).key ∧ PartIs 0 w' (.slice la (R.getD m noRd).last.length lc) (R.getD m noRd).last ∧ wr.grownBy w' none) := readCopy_any wr _ _ (hrd.grown hg) (HFR.out m hlt)
      have HT : Hid (R.take (m + 1) = R.take m ++ [R.getD m noRd]) := by
        show _ = _
        rw [List.take_succ_eq_append_getElem hlt]; simp [hlt]
      have hXl : (R.take m).length = m := by rw [List.length_take]; omega
      have HXL : Hid ((R.take m).length = m) := hXl
      have HO : Hid (OwnR w.heap.size 0 wr (.slice va m vc) (R.take m)) := hown
      have HOB : Hid (wr.heap[OB]? = some (.cells #[.int .i64 st, .slice va m vc, .slice none 0 0] 25)) := hO
      have HIB : Hid (wr.heap[IB]? = some (.cells #[.int .i64 st, .slice (some ⟨b, o, none⟩) R.length rc, .slice wa V.length wc] 25)) := hI
      have HRB : Hid (wr.heap[RB]? = some (.cells #[.int .i64 0, .slice none 0 0, .slice none 0 0] 25)) := hRb
      have hl80 : ((R.take m).length + 1) * 80 ≤ 140737488355328 := by rw [hXl]; omega
      generalize R.getD m noRd = P at *
      generalize R.take m = X at *
      clear hown hO hI hRb hXl hrd x1w x2w x3w x4w
      go_wp2_with fail
      refine CP.out.mono ?_
      rintro e w2 ⟨na, nc, ka, kc, la, lc, rfl, p1, p2, p3, hg2⟩
      obtain ⟨W5, HW5, hg5, B5⟩ := alloc_namedX w2 (.cells #[.slice na P.name.length nc, .slice ka P.key.length kc, .bool P.wide, .slice la P.last.length lc] 33)
      obtain ⟨⟨d0, d1, d2, d3⟩, _⟩ := quad_room (grown_refl W5 none) B5.out
      have hg25 := grown_trans hg2 hg5
      obtain ⟨⟨o0, o1, o2⟩, k0, k1, k2⟩ := trip_room2 (pair_old hg25 HOB.out)
      obtain ⟨W6, HW6, hg6, B6⟩ := alloc_namedX W5 (.cells #[.slice na P.name.length nc, .slice ka P.key.length kc, .bool P.wide, .slice la P.last.length lc] 33)
      have hg26 := grown_trans hg25 hg6
      have A1 : Hid (OwnR w.heap.size 0 W6 (.slice va m vc) X) := HO.out.grownNone hg26
      have A2 : Hid (PartIs 0 W6 (.slice na P.name.length nc) P.name) := p1.keptT (grown_trans hg5 hg6) (.inl rfl)
      have A3 : Hid (PartIs 0 W6 (.slice ka P.key.length kc) P.key) := p2.keptT (grown_trans hg5 hg6) (.inl rfl)
      have A4 : Hid (PartIs 0 W6 (.slice la P.last.length lc) P.last) := p3.keptT (grown_trans hg5 hg6) (.inl rfl)
      have A5 : Hid (w.heap.size ≤ W6.heap.size) := (grown_trans hg hg26).size
      have hgw6 := grown_trans hg hg26
      go_upto_region 6 with fail
      rw [← HW5.out]
      clear p1 p2 p3 x1 x2 x3 x4 c0 c1 c2 hg2 hg5
      obtain ⟨PB, hPB⟩ : ∃ PB, PB = w2.heap.size := ⟨_, rfl⟩
      rw [← hPB] at d0 d1 d2 d3 B5 ⊢
      clear hPB
      have HLN : Hid ((X ++ [P]).length = m + 1) := by show _ = _; rw [List.length_append, HXL.out]; rfl
      have O6 : Hid (W6.heap[OB]? = some (.cells #[.int .i64 st, .slice va m vc, .slice none 0 0] 25)) := pair_old hg26 HOB.out
      have I6 : Hid (W6.heap[IB]? = some (.cells #[.int .i64 st, .slice (some ⟨b, o, none⟩) R.length rc, .slice wa V.length wc] 25)) := pair_old hg26 HIB.out
      have R6 : Hid (W6.heap[RB]? = some (.cells #[.int .i64 0, .slice none 0 0, .slice none 0 0] 25)) := pair_old hg26 HRB.out
      have HGW6 : Hid (w.grownBy W6 none) := hgw6
      rw [HW6.out] at A1 A2 A3 A4 A5 O6 I6 R6 HGW6
      clear hgw6 hg26 hg25 hg6 HW6 B6 CP HO HOB HIB HRB
      go_wp2_with (at_builtin; refine wpList_append_rd rfl _ _ rfl w.heap.size (.slice va m vc) X rfl A1.out (.slice na P.name.length nc) (.slice ka P.key.length kc) (.slice la P.last.length lc) P A2.out A3.out A4.out W5.heap.size (heap_alloc_new W5 _) rfl hl80 A5.out ?_; intro v7 w7 ho7 hg7; obtain ⟨a7, c7, e7⟩ := ho7.shape; rw [HLN.out] at e7; subst e7; have O7 := A1.out.block hg7 O6.out txTR; obtain ⟨⟨r0, r1, r2⟩, _, r4, _⟩ := trip_room2 O7)
      have NO : Hid ((w7.setCell ⟨OB, 1, none⟩ (.slice a7 (m + 1) c7)).heap[OB]? = some (.cells #[.int .i64 st, .slice a7 (m + 1) c7, .slice none 0 0] 25)) := set_self O7
      have NR : Hid (OwnR w.heap.size 0 (w7.setCell ⟨OB, 1, none⟩ (.slice a7 (m + 1) c7)) (.slice a7 (m + 1) c7) (R.take (m + 1))) := by show OwnR _ _ _ _ _; rw [HT.out]; exact ho7.setOther O7 txT5 txTR (Nat.zero_le _) _
      have NI : Hid ((w7.setCell ⟨OB, 1, none⟩ (.slice a7 (m + 1) c7)).heap[IB]? = some (.cells #[.int .i64 st, .slice (some ⟨b, o, none⟩) R.length rc, .slice wa V.length wc] 25)) := set_apart (A1.out.block hg7 I6.out txTR) nIO
      have NB : Hid ((w7.setCell ⟨OB, 1, none⟩ (.slice a7 (m + 1) c7)).heap[RB]? = some (.cells #[.int .i64 0, .slice none 0 0, .slice none 0 0] 25)) := set_apart (A1.out.block hg7 R6.out txTR) nRO
      have NG : Hid (w.grownBy (w7.setCell ⟨OB, 1, none⟩ (.slice a7 (m + 1) c7)) none) := grown_setNew (grown_ownR HGW6.out A1.out (Nat.le_refl _) hg7) _ wOB _ _
      clear ho7 hg7 O7 r0 r1 r2 r4 d0 d1 d2 d3 o0 o1 o2 k0 k1 k2
      go_wp2_with fail
      go_roundw
      case rel =>
        first
          | exact ⟨m + 1, by go_num, by omega, ⟨a7, c7, NO.out, NR.out⟩, NI.out, NB.out, NG.out⟩
          | ((repeat apply Exists.intro); refine ⟨⟨m + 1, ?_, by omega, ⟨a7, c7, NO.out, NR.out⟩, NI.out, NB.out, NG.out⟩, rfl⟩; go_num)
      case measure => simp [intOf]; omega
    · obtain rfl : m = R.length := by omega
      have i1 : ¬ (R.length : Int) < (R.length : Int) := by omega
      rw [List.take_length] at hown
      have HO1 : Hid (OwnR w.heap.size 0 wr (.slice va R.length vc) R) := hown
      have HOB : Hid (wr.heap[OB]? = some (.cells #[.int .i64 st, .slice va R.length vc, .slice none 0 0] 25)) := hO
      have HIB : Hid (wr.heap[IB]? = some (.cells #[.int .i64 st, .slice ra R.length rc, .slice wa V.length wc] 25)) := hI
      have HRB : Hid (wr.heap[RB]? = some (.cells #[.int .i64 0, .slice none 0 0, .slice none 0 0] 25)) := hRb
      clear hown hO hI hRb
      go_wp2_with fail
      clear c0 c1 c2
      go_loopw [6] (fun s6 wr => ∃ m : Nat, s6 = .int .i64 (m : Int) ∧ m ≤ V.length ∧ (∃ ua uc, wr.heap[OB]? = some (.cells #[.int .i64 st, .slice va R.length vc, .slice ua m uc] 25) ∧ OwnV w.heap.size 0 wr (.slice ua m uc) (V.take m)) ∧ OwnR w.heap.size 0 wr (.slice va R.length vc) R ∧ wr.heap[IB]? = some (.cells #[.int .i64 st, .slice ra R.length rc, .slice wa V.length wc] 25) ∧ wr.heap[RB]? = some (.cells #[.int .i64 0, .slice none 0 0, .slice none 0 0] 25) ∧ w.grownBy wr none) (fun s6 _ => V.length - (intOf s6).toNat)
      case atStart => exact ⟨0, rfl, by omega, ⟨none, 0, HOB.out, ownV_nil _ _ _⟩, HO1.out, HIB.out, HRB.out, hg⟩
      case round =>
        obtain ⟨m, rfl, hm, ⟨ua, uc, hO, hown⟩, hOR, hI, hRb, hg⟩ := hrel
        obtain ⟨⟨c0, c1, c2⟩, _⟩ := trip_room2 hI
        by_cases hlt : m < V.length
        · have i1 : (m : Int) < (V.length : Int) := by omega
          obtain ⟨b, o, rfl, y1, y2, y3, y4, y5, y6, ⟨x1w, x2w, x3w, x4w⟩, hrd⟩ := writes_cells HV.out m hlt
          have x1 := hg.cell x1w (by simp)
          have x2 := hg.cell x2w (by simp)
          have x3 := hg.cell x3w (by simp)
          have x4 := hg.cell x4w (by simp)
          have CP : Hid (Calls Try.prog 17 #[.agg #[.slice y1 (V.getD m noPlc).name.length y2, .slice y3 (V.getD m noPlc).key.length y4, .bool (V.getD m noPlc).gone, .slice y5 (V.getD m noPlc).value.length y6]] wr fun e w' => ∃ na nc ka kc la lc, e = .returned (.agg #[.slice na (V.getD m noPlc).name.length nc, .slice ka (V.getD m noPlc).key.length kc, .bool (V.getD m noPlc).gone, .slice la (V.getD m noPlc).value.length lc]) ∧ PartIs 0 w' (.slice na (V.getD m noPlc).name.length nc) (V.getD m noPlc).name ∧ PartIs 0 w' (.slice ka (V.getD m noPlc).key.length kc) (V.getD m noPlc).key ∧ PartIs 0 w' (.slice la (V.getD m noPlc).value.length lc) (V.getD m noPlc).value ∧ wr.grownBy w' none) := writeCopyT_any wr _ _ (hrd.grown hg) (HFW.out m hlt)
          have HT : Hid (V.take (m + 1) = V.take m ++ [V.getD m noPlc]) := by
            show _ = _
            rw [List.take_succ_eq_append_getElem hlt]; simp [hlt]
          have hXl : (V.take m).length = m := by rw [List.length_take]; omega
          have HXL : Hid ((V.take m).length = m) := hXl
          have HO : Hid (OwnV w.heap.size 0 wr (.slice ua m uc) (V.take m)) := hown
          have HRR : Hid (OwnR w.heap.size 0 wr (.slice va R.length vc) R) := hOR
          have HOB : Hid (wr.heap[OB]? = some (.cells #[.int .i64 st, .slice va R.length vc, .slice ua m uc] 25)) := hO
          have HIB : Hid (wr.heap[IB]? = some (.cells #[.int .i64 st, .slice ra R.length rc, .slice (some ⟨b, o, none⟩) V.length wc] 25)) := hI
          have HRB : Hid (wr.heap[RB]? = some (.cells #[.int .i64 0, .slice none 0 0, .slice none 0 0] 25)) := hRb
          have hl80 : ((V.take m).length + 1) * 80 ≤ 140737488355328 := by rw [hXl]; omega
          generalize V.getD m noPlc = P at *
          generalize V.take m = X at *
          clear hown hOR hO hI hRb hXl hrd x1w x2w x3w x4w
          go_wp2_with fail
          refine CP.out.mono ?_
          rintro e w2 ⟨na, nc, ka, kc, la, lc, rfl, p1, p2, p3, hg2⟩
          obtain ⟨W5, HW5, hg5, B5⟩ := alloc_namedX w2 (.cells #[.slice na P.name.length nc, .slice ka P.key.length kc, .bool P.gone, .slice la P.value.length lc] 39)
          obtain ⟨⟨d0, d1, d2, d3⟩, _⟩ := quad_room (grown_refl W5 none) B5.out
          have hg25 := grown_trans hg2 hg5
          obtain ⟨⟨o0, o1, o2⟩, k0, k1, k2⟩ := trip_room2 (pair_old hg25 HOB.out)
          obtain ⟨W6, HW6, hg6, B6⟩ := alloc_namedX W5 (.cells #[.slice na P.name.length nc, .slice ka P.key.length kc, .bool P.gone, .slice la P.value.length lc] 39)
          have hg26 := grown_trans hg25 hg6
          have A1 : Hid (OwnV w.heap.size 0 W6 (.slice ua m uc) X) := HO.out.grownNone hg26
          have A2 : Hid (PartIs 0 W6 (.slice na P.name.length nc) P.name) := p1.keptT (grown_trans hg5 hg6) (.inl rfl)
          have A3 : Hid (PartIs 0 W6 (.slice ka P.key.length kc) P.key) := p2.keptT (grown_trans hg5 hg6) (.inl rfl)
          have A4 : Hid (PartIs 0 W6 (.slice la P.value.length lc) P.value) := p3.keptT (grown_trans hg5 hg6) (.inl rfl)
          have A6 : Hid (OwnR w.heap.size 0 W6 (.slice va R.length vc) R) := HRR.out.grownNone hg26
          have A5 : Hid (w.heap.size ≤ W6.heap.size) := (grown_trans hg hg26).size
          have hgw6 := grown_trans hg hg26
          go_upto_region 11 with fail
          rw [← HW5.out]
          clear p1 p2 p3 x1 x2 x3 x4 c0 c1 c2 hg2 hg5
          obtain ⟨PB, hPB⟩ : ∃ PB, PB = w2.heap.size := ⟨_, rfl⟩
          rw [← hPB] at d0 d1 d2 d3 B5 ⊢
          clear hPB
          have HLN : Hid ((X ++ [P]).length = m + 1) := by show _ = _; rw [List.length_append, HXL.out]; rfl
          have O6 : Hid (W6.heap[OB]? = some (.cells #[.int .i64 st, .slice va R.length vc, .slice ua m uc] 25)) := pair_old hg26 HOB.out
          have I6 : Hid (W6.heap[IB]? = some (.cells #[.int .i64 st, .slice ra R.length rc, .slice (some ⟨b, o, none⟩) V.length wc] 25)) := pair_old hg26 HIB.out
          have R6 : Hid (W6.heap[RB]? = some (.cells #[.int .i64 0, .slice none 0 0, .slice none 0 0] 25)) := pair_old hg26 HRB.out
          have HGW6 : Hid (w.grownBy W6 none) := hgw6
          rw [HW6.out] at A1 A2 A3 A4 A5 A6 O6 I6 R6 HGW6
          clear hgw6 hg26 hg25 hg6 HW6 B6 CP HO HOB HIB HRB
          go_wp2_with (at_builtin; refine wpList_append_wrV rfl _ _ rfl w.heap.size (.slice ua m uc) X rfl A1.out (.slice na P.name.length nc) (.slice ka P.key.length kc) (.slice la P.value.length lc) P A2.out A3.out A4.out W5.heap.size (heap_alloc_new W5 _) rfl hl80 A5.out ?_; intro v7 w7 ho7 hg7; obtain ⟨a7, c7, e7⟩ := ho7.shape; rw [HLN.out] at e7; subst e7; have O7 := A1.out.block hg7 O6.out txTW; obtain ⟨⟨r0, r1, r2⟩, _, _, r4⟩ := trip_room2 O7)
          have NO : Hid ((w7.setCell ⟨OB, 2, none⟩ (.slice a7 (m + 1) c7)).heap[OB]? = some (.cells #[.int .i64 st, .slice va R.length vc, .slice a7 (m + 1) c7] 25)) := set_self O7
          have NR : Hid (OwnV w.heap.size 0 (w7.setCell ⟨OB, 2, none⟩ (.slice a7 (m + 1) c7)) (.slice a7 (m + 1) c7) (V.take (m + 1))) := by show OwnV _ _ _ _ _; rw [HT.out]; exact ho7.setOther O7 txT5 txTW (Nat.zero_le _) _
          have NRR : Hid (OwnR w.heap.size 0 (w7.setCell ⟨OB, 2, none⟩ (.slice a7 (m + 1) c7)) (.slice va R.length vc) R) := (A6.out.keptV A1.out hg7).setOther O7 txT5 txTR (Nat.zero_le _) _
          have NI : Hid ((w7.setCell ⟨OB, 2, none⟩ (.slice a7 (m + 1) c7)).heap[IB]? = some (.cells #[.int .i64 st, .slice ra R.length rc, .slice (some ⟨b, o, none⟩) V.length wc] 25)) := set_apart (A1.out.block hg7 I6.out txTW) nIO
          have NB : Hid ((w7.setCell ⟨OB, 2, none⟩ (.slice a7 (m + 1) c7)).heap[RB]? = some (.cells #[.int .i64 0, .slice none 0 0, .slice none 0 0] 25)) := set_apart (A1.out.block hg7 R6.out txTW) nRO
          have NG : Hid (w.grownBy (w7.setCell ⟨OB, 2, none⟩ (.slice a7 (m + 1) c7)) none) := grown_setNew (grown_ownV HGW6.out A1.out (Nat.le_refl _) hg7) _ wOB _ _
          clear ho7 hg7 O7 r0 r1 r2 r4 d0 d1 d2 d3 o0 o1 o2 k0 k1 k2
          go_wp2_with fail
          go_roundw
          case rel =>
            first
              | exact ⟨m + 1, by go_num, by omega, ⟨a7, c7, NO.out, NR.out⟩, NRR.out, NI.out, NB.out, NG.out⟩
              | ((repeat apply Exists.intro); refine ⟨⟨m + 1, ?_, by omega, ⟨a7, c7, NO.out, NR.out⟩, NRR.out, NI.out, NB.out, NG.out⟩, rfl⟩; go_num)
          case measure => simp [intOf]; omega
        · obtain rfl : m = V.length := by omega
          have i1 : ¬ (V.length : Int) < (V.length : Int) := by omega
          rw [List.take_length] at hown
          obtain ⟨⟨e0, e1, e2⟩, _⟩ := trip_room2 hO
          obtain ⟨⟨f0, f1, f2⟩, g0, g1, g2⟩ := trip_room2 hRb
          have b1 := set_self (i := 0) (u := .int .i64 st) hRb
          have b2 := set_self (i := 1) (u := .slice va R.length vc) b1
          have b3 := set_self (i := 2) (u := .slice ua V.length uc) b2
          obtain ⟨⟨k0, k1, k2⟩, _⟩ := trip_room2 (x := .int .i64 st) (y := .slice va R.length vc) (z := .slice ua V.length uc) b3
          have FR : Hid (OwnR w.heap.size 0 (((wr.setCell ⟨RB, 0, none⟩ (.int .i64 st)).setCell ⟨RB, 1, none⟩ (.slice va R.length vc)).setCell ⟨RB, 2, none⟩ (.slice ua V.length uc)) (.slice va R.length vc) R) := ((hOR.setOther hRb txT5 txTR (Nat.zero_le _) _).setOther b1 txT5 txTR (Nat.zero_le _) _).setOther b2 txT5 txTR (Nat.zero_le _) _
          have FV : Hid (OwnV w.heap.size 0 (((wr.setCell ⟨RB, 0, none⟩ (.int .i64 st)).setCell ⟨RB, 1, none⟩ (.slice va R.length vc)).setCell ⟨RB, 2, none⟩ (.slice ua V.length uc)) (.slice ua V.length uc) V) := ((hown.setOther hRb txT5 txTW (Nat.zero_le _) _).setOther b1 txT5 txTW (Nat.zero_le _) _).setOther b2 txT5 txTW (Nat.zero_le _) _
          have FG : Hid (w.grownBy (((wr.setCell ⟨RB, 0, none⟩ (.int .i64 st)).setCell ⟨RB, 1, none⟩ (.slice va R.length vc)).setCell ⟨RB, 2, none⟩ (.slice ua V.length uc)) none) := grown_setNew (grown_setNew (grown_setNew hg _ wRB _ _) _ wRB _ _) _ wRB _ _
          clear hown hO hOR hI hRb b1 b2 b3
          go_wp2
          refine bodyPost_ret (v := .agg #[.int .i64 st, .slice va R.length vc, .slice ua V.length uc]) (by simp [results, Try.results9, go_sem, k0, k1, k2]) rfl ?_
          exact ⟨va, vc, ua, uc, rfl, FR.out, FV.out, FG.out⟩
end Go.Proofs.Ytpmfbfflacbmjaa
