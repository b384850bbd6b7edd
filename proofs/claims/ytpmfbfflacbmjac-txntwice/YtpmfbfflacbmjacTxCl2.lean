/-
  txn.cloned, as it landed: new memory.
-/
import Derived.Test.YtpmfbfflacbmjacTxCl1
namespace Go.Proofs.Ytpmfbfflacbmjac
open Go.RowKit
set_option maxRecDepth 100000 in
set_option maxHeartbeats 4000000 in
theorem tcloned_any (w : World) (v : Value) (t : Tx) (hv : TxIs w v t) (hf : FitsX t) :
    Calls Try.prog 34 #[v] w fun e w' => ∃ ra rc wa wc, e = .returned (.agg #[.int .i64 t.start, .slice ra t.reads.length rc, .slice wa t.writes.length wc]) ∧ OwnR w.heap.size 0 w' (.slice ra t.reads.length rc) t.reads ∧ OwnV w.heap.size 0 w' (.slice wa t.writes.length wc) t.writes ∧ w.grownBy w' none := by
  obtain ⟨ra, rc, wa, wc, rfl⟩ := hv.agg
  obtain ⟨_, hr, hw⟩ := hv.parts
  have HR : Hid (ReadsIs w (.slice ra t.reads.length rc) t.reads) := hr
  have HV : Hid (WritesIs w (.slice wa t.writes.length wc) t.writes) := hw
  have HFR : Hid (∀ i, i < t.reads.length → RdFits (t.reads.getD i noRd)) := hf.reads.each
  have HFW : Hid (∀ i, i < t.writes.length → PlcFits (t.writes.getD i noPlc)) := hf.writes.each
  have hrl := hf.reads.many
  have hwl := hf.writes.many
  clear hv hf hr hw
  generalize t.reads = R at *
  generalize t.writes = V at *
  generalize t.start = st at *
  obtain ⟨W1, HW1, hg1, B1⟩ := alloc_namedX w (.cells #[.int .i64 st, .slice ra R.length rc, .slice wa V.length wc] 28)
  obtain ⟨W2, HW2, hg2, B2⟩ := alloc_namedX W1 (.cells #[.int .i64 0, .slice none 0 0, .slice none 0 0] 28)
  obtain ⟨W3, HW3, hg3, B3⟩ := alloc_namedX W2 (.cells #[.int .i64 st, .slice none 0 0, .slice none 0 0] 28)
  have s1 : W1.heap.size = w.heap.size + 1 := by rw [HW1.out]; simp
  have s2 : W2.heap.size = w.heap.size + 1 + 1 := by rw [HW2.out]; simp [s1]
  obtain ⟨q0, q1, q2⟩ := trip_room hg2 B1.out
  rw [s1] at B2
  rw [s2] at B3
  have HX2 : Hid (W2 = (w.alloc (.cells #[.int .i64 st, .slice ra R.length rc, .slice wa V.length wc] 28)).alloc (.cells #[.int .i64 0, .slice none 0 0, .slice none 0 0] 28)) := by show _ = _; rw [HW2.out, HW1.out]
  have I3 : Hid (W3.heap[w.heap.size]? = some (.cells #[.int .i64 st, .slice ra R.length rc, .slice wa V.length wc] 28)) := pair_old (grown_trans hg2 hg3) B1.out
  have R3 : Hid (W3.heap[w.heap.size + 1]? = some (.cells #[.int .i64 0, .slice none 0 0, .slice none 0 0] 28)) := pair_old hg3 B2.out
  have hg03 := grown_trans hg1 (grown_trans hg2 hg3)
  have HS2 : Hid (W2.heap.size = w.heap.size + 1 + 1) := s2
  clear s1 s2 B1 B2
  go_enter Try.func34, Try.ntmps34
  go_upto_region 1 with fail
  rw [← HX2.out]
  go_upto_region 2 with fail
  rw [← HW3.out, HS2.out]
  obtain ⟨OB, hOB⟩ : ∃ OB, OB = w.heap.size + 1 + 1 := ⟨_, rfl⟩
  obtain ⟨RB, hRB⟩ : ∃ RB, RB = w.heap.size + 1 := ⟨_, rfl⟩
  obtain ⟨IB, hIB⟩ : ∃ IB, IB = w.heap.size := ⟨_, rfl⟩
  rw [← hOB] at B3 ⊢
  rw [← hRB] at R3 ⊢
  rw [← hIB] at I3 q0 q1 q2 ⊢
  have nIO : IB ≠ OB := by omega
  have nRO : RB ≠ OB := by omega
  have wOB : w.heap.size ≤ OB := by omega
  have wRB : w.heap.size ≤ RB := by omega
  clear hOB hRB hIB q0 q1 q2 HS2 HX2 HW1 HW2 HW3
  obtain ⟨⟨c0, c1, c2⟩, _⟩ := trip_room2 I3.out
  go_wp2_with fail
  clear c0 c1 c2
  go_loopw [5, 14] (fun _ s4 wr => ∃ m : Nat, s4 = .int .i64 (m : Int) ∧ m ≤ R.length ∧ (∃ va vc, wr.heap[OB]? = some (.cells #[.int .i64 st, .slice va m vc, .slice none 0 0] 28) ∧ OwnR w.heap.size 0 wr (.slice va m vc) (R.take m)) ∧ wr.heap[IB]? = some (.cells #[.int .i64 st, .slice ra R.length rc, .slice wa V.length wc] 28) ∧ wr.heap[RB]? = some (.cells #[.int .i64 0, .slice none 0 0, .slice none 0 0] 28) ∧ w.grownBy wr none) (fun _ s4 _ => R.length - (intOf s4).toNat)
  case atStart => exact ⟨0, rfl, by omega, ⟨none, 0, B3.out, ownR_nil _ _ _⟩, I3.out, R3.out, hg03⟩
  case round =>
    obtain ⟨m, rfl, hm, ⟨va, vc, hO, hown⟩, hI, hRb, hg⟩ := hrel
    obtain ⟨⟨c0, c1, c2⟩, _⟩ := trip_room2 hI
    by_cases hlt : m < R.length
    · have i1 : (m : Int) < (R.length : Int) := by omega
      obtain ⟨b, o, rfl, y1, y2, y3, y4, y5, y6, ⟨x1w, x2w, x3w, x4w⟩, hrd⟩ := reads_cells HR.out m hlt
      have x1 := hg.cell x1w (by simp)
      have x2 := hg.cell x2w (by simp)
      have x3 := hg.cell x3w (by simp)
      have x4 := hg.cell x4w (by simp)
      obtain ⟨W4, HW4, hg4, B4⟩ := alloc_namedX wr (.cells #[.slice y1 (R.getD m noRd).name.length y2, .slice y3 (R.getD m noRd).key.length y4, .bool (R.getD m noRd).wide, .slice y5 (R.getD m noRd).last.length y6] 40)
      have hgw4 := grown_trans hg hg4
      have CL : Hid (∀ w', W4.grownBy w' none → Calls Try.prog 36 #[.agg #[.slice y1 (R.getD m noRd).name.length y2, .slice y3 (R.getD m noRd).key.length y4, .bool (R.getD m noRd).wide, .slice y5 (R.getD m noRd).last.length y6]] w' fun e w'' => ∃ na nc ka kc la lc, e = .returned (.agg #[.slice na (R.getD m noRd).name.length nc, .slice ka (R.getD m noRd).key.length kc, .bool (R.getD m noRd).wide, .slice la (R.getD m noRd).last.length lc]) ∧ PartIs 0 w'' (.slice na (R.getD m noRd).name.length nc) (R.getD m noRd).name ∧ PartIs 0 w'' (.slice ka (R.getD m noRd).key.length kc) (R.getD m noRd).key ∧ PartIs 0 w'' (.slice la (R.getD m noRd).last.length lc) (R.getD m noRd).last ∧ w'.grownBy w'' none) := fun w' h => clonedRead_any w' _ _ (hrd.grown (grown_trans hgw4 h)) (HFR.out m hlt)
      have HT : Hid (R.take (m + 1) = R.take m ++ [R.getD m noRd]) := by
        show _ = _
        rw [List.take_succ_eq_append_getElem hlt]; simp [hlt]
      have hXl : (R.take m).length = m := by rw [List.length_take]; omega
      have HLN : Hid ((R.take m ++ [R.getD m noRd]).length = m + 1) := by show _ = _; rw [List.length_append, hXl]; rfl
      have HO : Hid (OwnR w.heap.size 0 W4 (.slice va m vc) (R.take m)) := hown.grownNone hg4
      have HOB : Hid (W4.heap[OB]? = some (.cells #[.int .i64 st, .slice va m vc, .slice none 0 0] 28)) := pair_old hg4 hO
      have HIB : Hid (W4.heap[IB]? = some (.cells #[.int .i64 st, .slice (some ⟨b, o, none⟩) R.length rc, .slice wa V.length wc] 28)) := pair_old hg4 hI
      have HRB : Hid (W4.heap[RB]? = some (.cells #[.int .i64 0, .slice none 0 0, .slice none 0 0] 28)) := pair_old hg4 hRb
      have hl80 : ((R.take m).length + 1) * 80 ≤ 140737488355328 := by rw [hXl]; omega
      generalize R.getD m noRd = P at *
      generalize R.take m = X at *
      have hgd : W4.grownBy W4.drew none := grown_drew (grown_refl _ _)
      obtain ⟨⟨b0, b1, b2, b3⟩, _⟩ := quad_room hgd B4.out
      obtain ⟨⟨t0, t1, t2⟩, _⟩ := trip_room2 (pair_old hgd HOB.out)
      have hwb : w.heap.size ≤ W4.heap.size := hgw4.size
      clear hown hO hI hRb hXl hrd x1w x2w x3w x4w hg4
      go_upto_region 5 with fail
      rw [← HW4.out]
      obtain ⟨YB, hYB⟩ : ∃ YB, YB = wr.heap.size := ⟨_, rfl⟩
      rw [← hYB] at b0 b1 b2 b3 ⊢
      clear hYB HW4 B4 x1 x2 x3 x4 c0 c1 c2
      have y0 := b0
      have y1' := b1
      have y2' := b2
      have y3' := b3
      clear b0 b1 b2 b3
      have e1 := t1
      clear t0 t1 t2
      refine wp_region_any (by kernel_rfl) ?_
      try (change wpAny _ _ _ _ _ _ _ (World.drew _))
      refine wpAny_take (i := 0) (v := ?_) rfl (by kernel_rfl) (by kernel_rfl) (by kernel_rfl) (fun _ _ _ h => h) (Or.inl ⟨by kernel_rfl, ?_⟩) ?_
      rotate_left 1
      · intro w; go_simp
        try with_reducible rfl
      refine wpAny_ready (rs := [1, 2]) (by kernel_rfl) (by simp) ?_
      refine AllReady.cons rfl (fun KK hK => ?_) ?_
      · skip
        go_simp
        refine hK _ _ ?_
        clear hK KK
        refine wpAny_ready (rs := [2]) (by kernel_rfl) (by simp) ?_
        refine AllReady.cons rfl (fun KK hK => ?_) ?_
        · skip
          go_simp
          refine hK _ _ ?_
          clear hK KK
          refine wpAny_ready (rs := [3]) (by kernel_rfl) (by simp) ?_
          refine AllReady.cons rfl (fun KK hK => ?_) ?_
          · skip
            go_simp
            refine (CL.out _ hgd).mono ?_
            rintro e w5 ⟨x1, x2, x3, x4, x5, x6, rfl, p1, p2, p3, hg5⟩
            have f1 := hg5.cell e1 (by simp)
            obtain ⟨W5, HW5, hgA5, B5⟩ := alloc_namedX w5 (.cells #[.slice x1 P.name.length x2, .slice x3 P.key.length x4, .bool P.wide, .slice x5 P.last.length x6] 40)
            have f2 := hgA5.cell f1 (by simp)
            have hg35 : W4.grownBy W5 none := grown_trans hgd (grown_trans hg5 hgA5)
            have A1 : Hid (OwnR w.heap.size 0 W5 (.slice va m vc) X) := HO.out.grownNone hg35
            have A2 : Hid (PartIs 0 W5 (.slice x1 P.name.length x2) P.name) := p1.keptT hgA5 (.inl rfl)
            have A3 : Hid (PartIs 0 W5 (.slice x3 P.key.length x4) P.key) := p2.keptT hgA5 (.inl rfl)
            have A4 : Hid (PartIs 0 W5 (.slice x5 P.last.length x6) P.last) := p3.keptT hgA5 (.inl rfl)
            have A5 : w.heap.size ≤ W5.heap.size := Nat.le_trans hwb hg35.size
            have O5 : Hid (W5.heap[OB]? = some (.cells #[.int .i64 st, .slice va m vc, .slice none 0 0] 28)) := pair_old hg35 HOB.out
            have I5 : Hid (W5.heap[IB]? = some (.cells #[.int .i64 st, .slice (some ⟨b, o, none⟩) R.length rc, .slice wa V.length wc] 28)) := pair_old hg35 HIB.out
            have R5 : Hid (W5.heap[RB]? = some (.cells #[.int .i64 0, .slice none 0 0, .slice none 0 0] 28)) := pair_old hg35 HRB.out
            have HG5 : Hid (w.grownBy W5 none) := grown_trans hgw4 hg35
            clear p1 p2 p3 hg5 hgA5
            refine hK _ _ ?_
            clear hK KK
            refine wpAny_ready (rs := [4]) (by kernel_rfl) (by simp) ?_
            refine AllReady.cons rfl (fun KK hK => ?_) ?_
            · skip
              go_simp
              rw [← HW5.out]
              refine hK _ _ ?_
              clear hK KK
              refine wpAny_ready (rs := [5]) (by kernel_rfl) (by simp) ?_
              refine AllReady.cons rfl (fun KK hK => ?_) ?_
              · refine step_append_rd (by rfl) _ _ (by rfl) w.heap.size (.slice va m vc) X (by rfl) A1.out (.slice x1 P.name.length x2) (.slice x3 P.key.length x4) (.slice x5 P.last.length x6) P A2.out A3.out A4.out w5.heap.size B5.out (by rfl) hl80 A5 ?_
                intro v7 w7 ho7 hg7
                obtain ⟨a7, c7, e7⟩ := ho7.shape
                rw [HLN.out] at e7
                subst e7
                have O7 := A1.out.block hg7 O5.out txTR
                obtain ⟨⟨r0, r1, r2⟩, g0, g1, g2⟩ := trip_room2 O7
                obtain ⟨W8, HW8, hgs8⟩ := set_namedX w7 OB 1 (.slice a7 (m + 1) c7)
                have NO : Hid (W8.heap[OB]? = some (.cells #[.int .i64 st, .slice a7 (m + 1) c7, .slice none 0 0] 28)) := by rw [HW8.out]; exact set_self O7
                have NR : Hid (OwnR w.heap.size 0 W8 (.slice a7 (m + 1) c7) (R.take (m + 1))) := by show OwnR _ _ _ _ _; rw [HT.out, HW8.out]; exact ho7.setOther O7 txT5 txTR (Nat.zero_le _) _
                have NI : Hid (W8.heap[IB]? = some (.cells #[.int .i64 st, .slice (some ⟨b, o, none⟩) R.length rc, .slice wa V.length wc] 28)) := by show _ = _; rw [HW8.out]; exact set_apart (A1.out.block hg7 I5.out txTR) nIO
                have NB : Hid (W8.heap[RB]? = some (.cells #[.int .i64 0, .slice none 0 0, .slice none 0 0] 28)) := by show _ = _; rw [HW8.out]; exact set_apart (A1.out.block hg7 R5.out txTR) nRO
                have NG : Hid (w.grownBy W8 none) := by show World.grownBy _ _ _; rw [HW8.out]; exact grown_setNew (grown_ownR HG5.out A1.out (Nat.le_refl _) hg7) _ wOB _ _
                clear ho7 hg7 O7 hgs8 hg35
                refine hK _ _ ?_
                clear hK KK
                refine wpAny_take (i := 6) (v := ?_) rfl (by kernel_rfl) (by kernel_rfl) (by kernel_rfl) (fun _ _ _ h => h) (Or.inl ⟨by kernel_rfl, ?_⟩) ?_
                rotate_left 1
                · intro w; go_simp
                  try with_reducible rfl
                refine wpAny_ready (rs := [7]) (by kernel_rfl) (by simp) ?_
                refine AllReady.cons rfl (fun KK hK => ?_) ?_
                · go_simp
                  rw [← HW8.out]
                  refine hK _ _ ?_
                  clear hK KK
                  refine wpAny_done (by kernel_rfl) ?_ _
                  clear g0 g1 g2 f1 f2 r0 r1 r2 e1
                  go_wp2_with fail
                  go_roundw
                  case rel =>
                    first
                      | exact ⟨m + 1, by go_num, by omega, ⟨a7, c7, NO.out, NR.out⟩, NI.out, NB.out, NG.out⟩
                      | ((repeat apply Exists.intro); refine ⟨⟨m + 1, ?_, by omega, ⟨a7, c7, NO.out, NR.out⟩, NI.out, NB.out, NG.out⟩, rfl⟩; go_num)
                  case measure => simp [intOf]; omega
                exact AllReady.nil
              exact AllReady.nil
            exact AllReady.nil
          exact AllReady.nil
        exact AllReady.nil
      refine AllReady.cons rfl (fun KK hK => ?_) ?_
      · skip
        go_simp
        refine hK _ _ ?_
        clear hK KK
        refine wpAny_ready (rs := [1, 3]) (by kernel_rfl) (by simp) ?_
        refine AllReady.cons rfl (fun KK hK => ?_) ?_
        · skip
          go_simp
          refine hK _ _ ?_
          clear hK KK
          refine wpAny_ready (rs := [3]) (by kernel_rfl) (by simp) ?_
          refine AllReady.cons rfl (fun KK hK => ?_) ?_
          · skip
            go_simp
            refine (CL.out _ hgd).mono ?_
            rintro e w5 ⟨x1, x2, x3, x4, x5, x6, rfl, p1, p2, p3, hg5⟩
            have f1 := hg5.cell e1 (by simp)
            obtain ⟨W5, HW5, hgA5, B5⟩ := alloc_namedX w5 (.cells #[.slice x1 P.name.length x2, .slice x3 P.key.length x4, .bool P.wide, .slice x5 P.last.length x6] 40)
            have f2 := hgA5.cell f1 (by simp)
            have hg35 : W4.grownBy W5 none := grown_trans hgd (grown_trans hg5 hgA5)
            have A1 : Hid (OwnR w.heap.size 0 W5 (.slice va m vc) X) := HO.out.grownNone hg35
            have A2 : Hid (PartIs 0 W5 (.slice x1 P.name.length x2) P.name) := p1.keptT hgA5 (.inl rfl)
            have A3 : Hid (PartIs 0 W5 (.slice x3 P.key.length x4) P.key) := p2.keptT hgA5 (.inl rfl)
            have A4 : Hid (PartIs 0 W5 (.slice x5 P.last.length x6) P.last) := p3.keptT hgA5 (.inl rfl)
            have A5 : w.heap.size ≤ W5.heap.size := Nat.le_trans hwb hg35.size
            have O5 : Hid (W5.heap[OB]? = some (.cells #[.int .i64 st, .slice va m vc, .slice none 0 0] 28)) := pair_old hg35 HOB.out
            have I5 : Hid (W5.heap[IB]? = some (.cells #[.int .i64 st, .slice (some ⟨b, o, none⟩) R.length rc, .slice wa V.length wc] 28)) := pair_old hg35 HIB.out
            have R5 : Hid (W5.heap[RB]? = some (.cells #[.int .i64 0, .slice none 0 0, .slice none 0 0] 28)) := pair_old hg35 HRB.out
            have HG5 : Hid (w.grownBy W5 none) := grown_trans hgw4 hg35
            clear p1 p2 p3 hg5 hgA5
            refine hK _ _ ?_
            clear hK KK
            refine wpAny_ready (rs := [4]) (by kernel_rfl) (by simp) ?_
            refine AllReady.cons rfl (fun KK hK => ?_) ?_
            · skip
              go_simp
              rw [← HW5.out]
              refine hK _ _ ?_
              clear hK KK
              refine wpAny_ready (rs := [5]) (by kernel_rfl) (by simp) ?_
              refine AllReady.cons rfl (fun KK hK => ?_) ?_
              · refine step_append_rd (by rfl) _ _ (by rfl) w.heap.size (.slice va m vc) X (by rfl) A1.out (.slice x1 P.name.length x2) (.slice x3 P.key.length x4) (.slice x5 P.last.length x6) P A2.out A3.out A4.out w5.heap.size B5.out (by rfl) hl80 A5 ?_
                intro v7 w7 ho7 hg7
                obtain ⟨a7, c7, e7⟩ := ho7.shape
                rw [HLN.out] at e7
                subst e7
                have O7 := A1.out.block hg7 O5.out txTR
                obtain ⟨⟨r0, r1, r2⟩, g0, g1, g2⟩ := trip_room2 O7
                obtain ⟨W8, HW8, hgs8⟩ := set_namedX w7 OB 1 (.slice a7 (m + 1) c7)
                have NO : Hid (W8.heap[OB]? = some (.cells #[.int .i64 st, .slice a7 (m + 1) c7, .slice none 0 0] 28)) := by rw [HW8.out]; exact set_self O7
                have NR : Hid (OwnR w.heap.size 0 W8 (.slice a7 (m + 1) c7) (R.take (m + 1))) := by show OwnR _ _ _ _ _; rw [HT.out, HW8.out]; exact ho7.setOther O7 txT5 txTR (Nat.zero_le _) _
                have NI : Hid (W8.heap[IB]? = some (.cells #[.int .i64 st, .slice (some ⟨b, o, none⟩) R.length rc, .slice wa V.length wc] 28)) := by show _ = _; rw [HW8.out]; exact set_apart (A1.out.block hg7 I5.out txTR) nIO
                have NB : Hid (W8.heap[RB]? = some (.cells #[.int .i64 0, .slice none 0 0, .slice none 0 0] 28)) := by show _ = _; rw [HW8.out]; exact set_apart (A1.out.block hg7 R5.out txTR) nRO
                have NG : Hid (w.grownBy W8 none) := by show World.grownBy _ _ _; rw [HW8.out]; exact grown_setNew (grown_ownR HG5.out A1.out (Nat.le_refl _) hg7) _ wOB _ _
                clear ho7 hg7 O7 hgs8 hg35
                refine hK _ _ ?_
                clear hK KK
                refine wpAny_take (i := 6) (v := ?_) rfl (by kernel_rfl) (by kernel_rfl) (by kernel_rfl) (fun _ _ _ h => h) (Or.inl ⟨by kernel_rfl, ?_⟩) ?_
                rotate_left 1
                · intro w; go_simp
                  try with_reducible rfl
                refine wpAny_ready (rs := [7]) (by kernel_rfl) (by simp) ?_
                refine AllReady.cons rfl (fun KK hK => ?_) ?_
                · go_simp
                  rw [← HW8.out]
                  refine hK _ _ ?_
                  clear hK KK
                  refine wpAny_done (by kernel_rfl) ?_ _
                  clear g0 g1 g2 f1 f2 r0 r1 r2 e1
                  go_wp2_with fail
                  go_roundw
                  case rel =>
                    first
                      | exact ⟨m + 1, by go_num, by omega, ⟨a7, c7, NO.out, NR.out⟩, NI.out, NB.out, NG.out⟩
                      | ((repeat apply Exists.intro); refine ⟨⟨m + 1, ?_, by omega, ⟨a7, c7, NO.out, NR.out⟩, NI.out, NB.out, NG.out⟩, rfl⟩; go_num)
                  case measure => simp [intOf]; omega
                exact AllReady.nil
              exact AllReady.nil
            exact AllReady.nil
          exact AllReady.nil
        refine AllReady.cons rfl (fun KK hK => ?_) ?_
        · skip
          go_simp
          refine (CL.out _ hgd).mono ?_
          rintro e w5 ⟨x1, x2, x3, x4, x5, x6, rfl, p1, p2, p3, hg5⟩
          have f1 := hg5.cell e1 (by simp)
          obtain ⟨W5, HW5, hgA5, B5⟩ := alloc_namedX w5 (.cells #[.slice x1 P.name.length x2, .slice x3 P.key.length x4, .bool P.wide, .slice x5 P.last.length x6] 40)
          have f2 := hgA5.cell f1 (by simp)
          have hg35 : W4.grownBy W5 none := grown_trans hgd (grown_trans hg5 hgA5)
          have A1 : Hid (OwnR w.heap.size 0 W5 (.slice va m vc) X) := HO.out.grownNone hg35
          have A2 : Hid (PartIs 0 W5 (.slice x1 P.name.length x2) P.name) := p1.keptT hgA5 (.inl rfl)
          have A3 : Hid (PartIs 0 W5 (.slice x3 P.key.length x4) P.key) := p2.keptT hgA5 (.inl rfl)
          have A4 : Hid (PartIs 0 W5 (.slice x5 P.last.length x6) P.last) := p3.keptT hgA5 (.inl rfl)
          have A5 : w.heap.size ≤ W5.heap.size := Nat.le_trans hwb hg35.size
          have O5 : Hid (W5.heap[OB]? = some (.cells #[.int .i64 st, .slice va m vc, .slice none 0 0] 28)) := pair_old hg35 HOB.out
          have I5 : Hid (W5.heap[IB]? = some (.cells #[.int .i64 st, .slice (some ⟨b, o, none⟩) R.length rc, .slice wa V.length wc] 28)) := pair_old hg35 HIB.out
          have R5 : Hid (W5.heap[RB]? = some (.cells #[.int .i64 0, .slice none 0 0, .slice none 0 0] 28)) := pair_old hg35 HRB.out
          have HG5 : Hid (w.grownBy W5 none) := grown_trans hgw4 hg35
          clear p1 p2 p3 hg5 hgA5
          refine hK _ _ ?_
          clear hK KK
          refine wpAny_ready (rs := [1, 4]) (by kernel_rfl) (by simp) ?_
          refine AllReady.cons rfl (fun KK hK => ?_) ?_
          · skip
            go_simp
            refine hK _ _ ?_
            clear hK KK
            refine wpAny_ready (rs := [4]) (by kernel_rfl) (by simp) ?_
            refine AllReady.cons rfl (fun KK hK => ?_) ?_
            · skip
              go_simp
              rw [← HW5.out]
              refine hK _ _ ?_
              clear hK KK
              refine wpAny_ready (rs := [5]) (by kernel_rfl) (by simp) ?_
              refine AllReady.cons rfl (fun KK hK => ?_) ?_
              · refine step_append_rd (by rfl) _ _ (by rfl) w.heap.size (.slice va m vc) X (by rfl) A1.out (.slice x1 P.name.length x2) (.slice x3 P.key.length x4) (.slice x5 P.last.length x6) P A2.out A3.out A4.out w5.heap.size B5.out (by rfl) hl80 A5 ?_
                intro v7 w7 ho7 hg7
                obtain ⟨a7, c7, e7⟩ := ho7.shape
                rw [HLN.out] at e7
                subst e7
                have O7 := A1.out.block hg7 O5.out txTR
                obtain ⟨⟨r0, r1, r2⟩, g0, g1, g2⟩ := trip_room2 O7
                obtain ⟨W8, HW8, hgs8⟩ := set_namedX w7 OB 1 (.slice a7 (m + 1) c7)
                have NO : Hid (W8.heap[OB]? = some (.cells #[.int .i64 st, .slice a7 (m + 1) c7, .slice none 0 0] 28)) := by rw [HW8.out]; exact set_self O7
                have NR : Hid (OwnR w.heap.size 0 W8 (.slice a7 (m + 1) c7) (R.take (m + 1))) := by show OwnR _ _ _ _ _; rw [HT.out, HW8.out]; exact ho7.setOther O7 txT5 txTR (Nat.zero_le _) _
                have NI : Hid (W8.heap[IB]? = some (.cells #[.int .i64 st, .slice (some ⟨b, o, none⟩) R.length rc, .slice wa V.length wc] 28)) := by show _ = _; rw [HW8.out]; exact set_apart (A1.out.block hg7 I5.out txTR) nIO
                have NB : Hid (W8.heap[RB]? = some (.cells #[.int .i64 0, .slice none 0 0, .slice none 0 0] 28)) := by show _ = _; rw [HW8.out]; exact set_apart (A1.out.block hg7 R5.out txTR) nRO
                have NG : Hid (w.grownBy W8 none) := by show World.grownBy _ _ _; rw [HW8.out]; exact grown_setNew (grown_ownR HG5.out A1.out (Nat.le_refl _) hg7) _ wOB _ _
                clear ho7 hg7 O7 hgs8 hg35
                refine hK _ _ ?_
                clear hK KK
                refine wpAny_take (i := 6) (v := ?_) rfl (by kernel_rfl) (by kernel_rfl) (by kernel_rfl) (fun _ _ _ h => h) (Or.inl ⟨by kernel_rfl, ?_⟩) ?_
                rotate_left 1
                · intro w; go_simp
                  try with_reducible rfl
                refine wpAny_ready (rs := [7]) (by kernel_rfl) (by simp) ?_
                refine AllReady.cons rfl (fun KK hK => ?_) ?_
                · go_simp
                  rw [← HW8.out]
                  refine hK _ _ ?_
                  clear hK KK
                  refine wpAny_done (by kernel_rfl) ?_ _
                  clear g0 g1 g2 f1 f2 r0 r1 r2 e1
                  go_wp2_with fail
                  go_roundw
                  case rel =>
                    first
                      | exact ⟨m + 1, by go_num, by omega, ⟨a7, c7, NO.out, NR.out⟩, NI.out, NB.out, NG.out⟩
                      | ((repeat apply Exists.intro); refine ⟨⟨m + 1, ?_, by omega, ⟨a7, c7, NO.out, NR.out⟩, NI.out, NB.out, NG.out⟩, rfl⟩; go_num)
                  case measure => simp [intOf]; omega
                exact AllReady.nil
              exact AllReady.nil
            exact AllReady.nil
          refine AllReady.cons rfl (fun KK hK => ?_) ?_
          · skip
            go_simp
            rw [← HW5.out]
            refine hK _ _ ?_
            clear hK KK
            refine wpAny_ready (rs := [1]) (by kernel_rfl) (by simp) ?_
            refine AllReady.cons rfl (fun KK hK => ?_) ?_
            · skip
              go_simp
              refine hK _ _ ?_
              clear hK KK
              refine wpAny_ready (rs := [5]) (by kernel_rfl) (by simp) ?_
              refine AllReady.cons rfl (fun KK hK => ?_) ?_
              · refine step_append_rd (by rfl) _ _ (by rfl) w.heap.size (.slice va m vc) X (by rfl) A1.out (.slice x1 P.name.length x2) (.slice x3 P.key.length x4) (.slice x5 P.last.length x6) P A2.out A3.out A4.out w5.heap.size B5.out (by rfl) hl80 A5 ?_
                intro v7 w7 ho7 hg7
                obtain ⟨a7, c7, e7⟩ := ho7.shape
                rw [HLN.out] at e7
                subst e7
                have O7 := A1.out.block hg7 O5.out txTR
                obtain ⟨⟨r0, r1, r2⟩, g0, g1, g2⟩ := trip_room2 O7
                obtain ⟨W8, HW8, hgs8⟩ := set_namedX w7 OB 1 (.slice a7 (m + 1) c7)
                have NO : Hid (W8.heap[OB]? = some (.cells #[.int .i64 st, .slice a7 (m + 1) c7, .slice none 0 0] 28)) := by rw [HW8.out]; exact set_self O7
                have NR : Hid (OwnR w.heap.size 0 W8 (.slice a7 (m + 1) c7) (R.take (m + 1))) := by show OwnR _ _ _ _ _; rw [HT.out, HW8.out]; exact ho7.setOther O7 txT5 txTR (Nat.zero_le _) _
                have NI : Hid (W8.heap[IB]? = some (.cells #[.int .i64 st, .slice (some ⟨b, o, none⟩) R.length rc, .slice wa V.length wc] 28)) := by show _ = _; rw [HW8.out]; exact set_apart (A1.out.block hg7 I5.out txTR) nIO
                have NB : Hid (W8.heap[RB]? = some (.cells #[.int .i64 0, .slice none 0 0, .slice none 0 0] 28)) := by show _ = _; rw [HW8.out]; exact set_apart (A1.out.block hg7 R5.out txTR) nRO
                have NG : Hid (w.grownBy W8 none) := by show World.grownBy _ _ _; rw [HW8.out]; exact grown_setNew (grown_ownR HG5.out A1.out (Nat.le_refl _) hg7) _ wOB _ _
                clear ho7 hg7 O7 hgs8 hg35
                refine hK _ _ ?_
                clear hK KK
                refine wpAny_take (i := 6) (v := ?_) rfl (by kernel_rfl) (by kernel_rfl) (by kernel_rfl) (fun _ _ _ h => h) (Or.inl ⟨by kernel_rfl, ?_⟩) ?_
                rotate_left 1
                · intro w; go_simp
                  try with_reducible rfl
                refine wpAny_ready (rs := [7]) (by kernel_rfl) (by simp) ?_
                refine AllReady.cons rfl (fun KK hK => ?_) ?_
                · go_simp
                  rw [← HW8.out]
                  refine hK _ _ ?_
                  clear hK KK
                  refine wpAny_done (by kernel_rfl) ?_ _
                  clear g0 g1 g2 f1 f2 r0 r1 r2 e1
                  go_wp2_with fail
                  go_roundw
                  case rel =>
                    first
                      | exact ⟨m + 1, by go_num, by omega, ⟨a7, c7, NO.out, NR.out⟩, NI.out, NB.out, NG.out⟩
                      | ((repeat apply Exists.intro); refine ⟨⟨m + 1, ?_, by omega, ⟨a7, c7, NO.out, NR.out⟩, NI.out, NB.out, NG.out⟩, rfl⟩; go_num)
                  case measure => simp [intOf]; omega
                exact AllReady.nil
              exact AllReady.nil
            exact AllReady.nil
          exact AllReady.nil
        exact AllReady.nil
      exact AllReady.nil
    · obtain rfl : m = R.length := by omega
      have i1 : ¬ (R.length : Int) < (R.length : Int) := by omega
      rw [List.take_length] at hown
      have HO1 : Hid (OwnR w.heap.size 0 wr (.slice va R.length vc) R) := hown
      have HOB : Hid (wr.heap[OB]? = some (.cells #[.int .i64 st, .slice va R.length vc, .slice none 0 0] 28)) := hO
      have HIB : Hid (wr.heap[IB]? = some (.cells #[.int .i64 st, .slice ra R.length rc, .slice wa V.length wc] 28)) := hI
      have HRB : Hid (wr.heap[RB]? = some (.cells #[.int .i64 0, .slice none 0 0, .slice none 0 0] 28)) := hRb
      clear hown hO hI hRb
      go_wp2_with fail
      clear c0 c1 c2
      go_loopw [7, 29] (fun _ s6 wr => ∃ m : Nat, s6 = .int .i64 (m : Int) ∧ m ≤ V.length ∧ (∃ ua uc, wr.heap[OB]? = some (.cells #[.int .i64 st, .slice va R.length vc, .slice ua m uc] 28) ∧ OwnV w.heap.size 0 wr (.slice ua m uc) (V.take m)) ∧ OwnR w.heap.size 0 wr (.slice va R.length vc) R ∧ wr.heap[IB]? = some (.cells #[.int .i64 st, .slice ra R.length rc, .slice wa V.length wc] 28) ∧ wr.heap[RB]? = some (.cells #[.int .i64 0, .slice none 0 0, .slice none 0 0] 28) ∧ w.grownBy wr none) (fun _ s6 _ => V.length - (intOf s6).toNat)
      case atStart => exact ⟨0, rfl, by omega, ⟨none, 0, HOB.out, ownV_nil _ _ _⟩, HO1.out, HIB.out, HRB.out, hg⟩
      case round =>
        obtain ⟨m, rfl, hm, ⟨ua, uc, hO, hown⟩, hOR, hI, hRb, hg⟩ := hrel
        obtain ⟨⟨c0, c1, c2⟩, _⟩ := trip_room2 hI
        by_cases hlt : m < V.length
        · have i1 : (m : Int) < (V.length : Int) := by omega
          obtain ⟨b, o, rfl, y1, y2, y3, y4, y5, y6, ⟨x1w, x2w, x3w, x4w⟩, hrd⟩ := writes_cells HV.out m hlt
          have x1 := hg.cell x1w (by simp)
          have x2 := hg.cell x2w (by simp)
          have x3 := hg.cell x3w (by simp)
          have x4 := hg.cell x4w (by simp)
          obtain ⟨W4, HW4, hg4, B4⟩ := alloc_namedX wr (.cells #[.slice y1 (V.getD m noPlc).name.length y2, .slice y3 (V.getD m noPlc).key.length y4, .bool (V.getD m noPlc).gone, .slice y5 (V.getD m noPlc).value.length y6] 53)
          have hgw4 := grown_trans hg hg4
          have CL : Hid (∀ w', W4.grownBy w' none → Calls Try.prog 49 #[.agg #[.slice y1 (V.getD m noPlc).name.length y2, .slice y3 (V.getD m noPlc).key.length y4, .bool (V.getD m noPlc).gone, .slice y5 (V.getD m noPlc).value.length y6]] w' fun e w'' => ∃ na nc ka kc la lc, e = .returned (.agg #[.slice na (V.getD m noPlc).name.length nc, .slice ka (V.getD m noPlc).key.length kc, .bool (V.getD m noPlc).gone, .slice la (V.getD m noPlc).value.length lc]) ∧ PartIs 0 w'' (.slice na (V.getD m noPlc).name.length nc) (V.getD m noPlc).name ∧ PartIs 0 w'' (.slice ka (V.getD m noPlc).key.length kc) (V.getD m noPlc).key ∧ PartIs 0 w'' (.slice la (V.getD m noPlc).value.length lc) (V.getD m noPlc).value ∧ w'.grownBy w'' none) := fun w' h => clonedWrite_any w' _ _ (hrd.grown (grown_trans hgw4 h)) (HFW.out m hlt)
          have HT : Hid (V.take (m + 1) = V.take m ++ [V.getD m noPlc]) := by
            show _ = _
            rw [List.take_succ_eq_append_getElem hlt]; simp [hlt]
          have hXl : (V.take m).length = m := by rw [List.length_take]; omega
          have HLN : Hid ((V.take m ++ [V.getD m noPlc]).length = m + 1) := by show _ = _; rw [List.length_append, hXl]; rfl
          have HO : Hid (OwnV w.heap.size 0 W4 (.slice ua m uc) (V.take m)) := hown.grownNone hg4
          have HOB : Hid (W4.heap[OB]? = some (.cells #[.int .i64 st, .slice va R.length vc, .slice ua m uc] 28)) := pair_old hg4 hO
          have HIB : Hid (W4.heap[IB]? = some (.cells #[.int .i64 st, .slice ra R.length rc, .slice (some ⟨b, o, none⟩) V.length wc] 28)) := pair_old hg4 hI
          have HRB : Hid (W4.heap[RB]? = some (.cells #[.int .i64 0, .slice none 0 0, .slice none 0 0] 28)) := pair_old hg4 hRb
          have HOR : Hid (OwnR w.heap.size 0 W4 (.slice va R.length vc) R) := hOR.grownNone hg4
          have hl80 : ((V.take m).length + 1) * 80 ≤ 140737488355328 := by rw [hXl]; omega
          generalize V.getD m noPlc = P at *
          generalize V.take m = X at *
          have hgd : W4.grownBy W4.drew none := grown_drew (grown_refl _ _)
          obtain ⟨⟨b0, b1, b2, b3⟩, _⟩ := quad_room hgd B4.out
          obtain ⟨⟨t0, t1, t2⟩, _⟩ := trip_room2 (pair_old hgd HOB.out)
          have hwb : w.heap.size ≤ W4.heap.size := hgw4.size
          clear hown hO hI hRb hXl hrd x1w x2w x3w x4w hOR hg4
          go_upto_region 10 with fail
          rw [← HW4.out]
          obtain ⟨YB, hYB⟩ : ∃ YB, YB = wr.heap.size := ⟨_, rfl⟩
          rw [← hYB] at b0 b1 b2 b3 ⊢
          clear hYB HW4 B4 x1 x2 x3 x4 c0 c1 c2
          have y0 := b0
          have y1' := b1
          have y2' := b2
          have y3' := b3
          clear b0 b1 b2 b3
          have e1 := t2
          clear t0 t1 t2
          refine wp_region_any (by kernel_rfl) ?_
          try (change wpAny _ _ _ _ _ _ _ (World.drew _))
          refine wpAny_take (i := 0) (v := ?_) rfl (by kernel_rfl) (by kernel_rfl) (by kernel_rfl) (fun _ _ _ h => h) (Or.inl ⟨by kernel_rfl, ?_⟩) ?_
          rotate_left 1
          · intro w; go_simp
            try with_reducible rfl
          refine wpAny_ready (rs := [1, 2]) (by kernel_rfl) (by simp) ?_
          refine AllReady.cons rfl (fun KK hK => ?_) ?_
          · skip
            go_simp
            refine hK _ _ ?_
            clear hK KK
            refine wpAny_ready (rs := [2]) (by kernel_rfl) (by simp) ?_
            refine AllReady.cons rfl (fun KK hK => ?_) ?_
            · skip
              go_simp
              refine hK _ _ ?_
              clear hK KK
              refine wpAny_ready (rs := [3]) (by kernel_rfl) (by simp) ?_
              refine AllReady.cons rfl (fun KK hK => ?_) ?_
              · skip
                go_simp
                refine (CL.out _ hgd).mono ?_
                rintro e w5 ⟨x1, x2, x3, x4, x5, x6, rfl, p1, p2, p3, hg5⟩
                have f1 := hg5.cell e1 (by simp)
                obtain ⟨W5, HW5, hgA5, B5⟩ := alloc_namedX w5 (.cells #[.slice x1 P.name.length x2, .slice x3 P.key.length x4, .bool P.gone, .slice x5 P.value.length x6] 53)
                have f2 := hgA5.cell f1 (by simp)
                have hg35 : W4.grownBy W5 none := grown_trans hgd (grown_trans hg5 hgA5)
                have A1 : Hid (OwnV w.heap.size 0 W5 (.slice ua m uc) X) := HO.out.grownNone hg35
                have A2 : Hid (PartIs 0 W5 (.slice x1 P.name.length x2) P.name) := p1.keptT hgA5 (.inl rfl)
                have A3 : Hid (PartIs 0 W5 (.slice x3 P.key.length x4) P.key) := p2.keptT hgA5 (.inl rfl)
                have A4 : Hid (PartIs 0 W5 (.slice x5 P.value.length x6) P.value) := p3.keptT hgA5 (.inl rfl)
                have A5 : w.heap.size ≤ W5.heap.size := Nat.le_trans hwb hg35.size
                have O5 : Hid (W5.heap[OB]? = some (.cells #[.int .i64 st, .slice va R.length vc, .slice ua m uc] 28)) := pair_old hg35 HOB.out
                have I5 : Hid (W5.heap[IB]? = some (.cells #[.int .i64 st, .slice ra R.length rc, .slice (some ⟨b, o, none⟩) V.length wc] 28)) := pair_old hg35 HIB.out
                have R5 : Hid (W5.heap[RB]? = some (.cells #[.int .i64 0, .slice none 0 0, .slice none 0 0] 28)) := pair_old hg35 HRB.out
                have HG5 : Hid (w.grownBy W5 none) := grown_trans hgw4 hg35
                have OR5 : Hid (OwnR w.heap.size 0 W5 (.slice va R.length vc) R) := HOR.out.grownNone hg35
                clear p1 p2 p3 hg5 hgA5
                refine hK _ _ ?_
                clear hK KK
                refine wpAny_ready (rs := [4]) (by kernel_rfl) (by simp) ?_
                refine AllReady.cons rfl (fun KK hK => ?_) ?_
                · skip
                  go_simp
                  rw [← HW5.out]
                  refine hK _ _ ?_
                  clear hK KK
                  refine wpAny_ready (rs := [5]) (by kernel_rfl) (by simp) ?_
                  refine AllReady.cons rfl (fun KK hK => ?_) ?_
                  · refine step_append_wrX (by rfl) _ _ (by rfl) w.heap.size (.slice ua m uc) X (by rfl) A1.out (.slice x1 P.name.length x2) (.slice x3 P.key.length x4) (.slice x5 P.value.length x6) P A2.out A3.out A4.out w5.heap.size B5.out (by rfl) hl80 A5 ?_
                    intro v7 w7 ho7 hg7
                    obtain ⟨a7, c7, e7⟩ := ho7.shape
                    rw [HLN.out] at e7
                    subst e7
                    have O7 := A1.out.block hg7 O5.out txTW
                    obtain ⟨⟨r0, r1, r2⟩, g0, g1, g2⟩ := trip_room2 O7
                    obtain ⟨W8, HW8, hgs8⟩ := set_namedX w7 OB 2 (.slice a7 (m + 1) c7)
                    have NO : Hid (W8.heap[OB]? = some (.cells #[.int .i64 st, .slice va R.length vc, .slice a7 (m + 1) c7] 28)) := by rw [HW8.out]; exact set_self O7
                    have NR : Hid (OwnV w.heap.size 0 W8 (.slice a7 (m + 1) c7) (V.take (m + 1))) := by show OwnV _ _ _ _ _; rw [HT.out, HW8.out]; exact ho7.setOther O7 txT5 txTW (Nat.zero_le _) _
                    have NI : Hid (W8.heap[IB]? = some (.cells #[.int .i64 st, .slice ra R.length rc, .slice (some ⟨b, o, none⟩) V.length wc] 28)) := by show _ = _; rw [HW8.out]; exact set_apart (A1.out.block hg7 I5.out txTW) nIO
                    have NB : Hid (W8.heap[RB]? = some (.cells #[.int .i64 0, .slice none 0 0, .slice none 0 0] 28)) := by show _ = _; rw [HW8.out]; exact set_apart (A1.out.block hg7 R5.out txTW) nRO
                    have NG : Hid (w.grownBy W8 none) := by show World.grownBy _ _ _; rw [HW8.out]; exact grown_setNew (grown_ownV HG5.out A1.out (Nat.le_refl _) hg7) _ wOB _ _
                    have NRR : Hid (OwnR w.heap.size 0 W8 (.slice va R.length vc) R) := by show OwnR _ _ _ _ _; rw [HW8.out]; exact (OR5.out.keptV A1.out hg7).setOther O7 txT5 txTR (Nat.zero_le _) _
                    clear ho7 hg7 O7 hgs8 hg35
                    refine hK _ _ ?_
                    clear hK KK
                    refine wpAny_take (i := 6) (v := ?_) rfl (by kernel_rfl) (by kernel_rfl) (by kernel_rfl) (fun _ _ _ h => h) (Or.inl ⟨by kernel_rfl, ?_⟩) ?_
                    rotate_left 1
                    · intro w; go_simp
                      try with_reducible rfl
                    refine wpAny_ready (rs := [7]) (by kernel_rfl) (by simp) ?_
                    refine AllReady.cons rfl (fun KK hK => ?_) ?_
                    · go_simp
                      rw [← HW8.out]
                      refine hK _ _ ?_
                      clear hK KK
                      refine wpAny_done (by kernel_rfl) ?_ _
                      clear g0 g1 g2 f1 f2 r0 r1 r2 e1
                      go_wp2_with fail
                      go_roundw
                      case rel =>
                        first
                          | exact ⟨m + 1, by go_num, by omega, ⟨a7, c7, NO.out, NR.out⟩, NRR.out, NI.out, NB.out, NG.out⟩
                          | ((repeat apply Exists.intro); refine ⟨⟨m + 1, ?_, by omega, ⟨a7, c7, NO.out, NR.out⟩, NRR.out, NI.out, NB.out, NG.out⟩, rfl⟩; go_num)
                      case measure => simp [intOf]; omega
                    exact AllReady.nil
                  exact AllReady.nil
                exact AllReady.nil
              exact AllReady.nil
            exact AllReady.nil
          refine AllReady.cons rfl (fun KK hK => ?_) ?_
          · skip
            go_simp
            refine hK _ _ ?_
            clear hK KK
            refine wpAny_ready (rs := [1, 3]) (by kernel_rfl) (by simp) ?_
            refine AllReady.cons rfl (fun KK hK => ?_) ?_
            · skip
              go_simp
              refine hK _ _ ?_
              clear hK KK
              refine wpAny_ready (rs := [3]) (by kernel_rfl) (by simp) ?_
              refine AllReady.cons rfl (fun KK hK => ?_) ?_
              · skip
                go_simp
                refine (CL.out _ hgd).mono ?_
                rintro e w5 ⟨x1, x2, x3, x4, x5, x6, rfl, p1, p2, p3, hg5⟩
                have f1 := hg5.cell e1 (by simp)
                obtain ⟨W5, HW5, hgA5, B5⟩ := alloc_namedX w5 (.cells #[.slice x1 P.name.length x2, .slice x3 P.key.length x4, .bool P.gone, .slice x5 P.value.length x6] 53)
                have f2 := hgA5.cell f1 (by simp)
                have hg35 : W4.grownBy W5 none := grown_trans hgd (grown_trans hg5 hgA5)
                have A1 : Hid (OwnV w.heap.size 0 W5 (.slice ua m uc) X) := HO.out.grownNone hg35
                have A2 : Hid (PartIs 0 W5 (.slice x1 P.name.length x2) P.name) := p1.keptT hgA5 (.inl rfl)
                have A3 : Hid (PartIs 0 W5 (.slice x3 P.key.length x4) P.key) := p2.keptT hgA5 (.inl rfl)
                have A4 : Hid (PartIs 0 W5 (.slice x5 P.value.length x6) P.value) := p3.keptT hgA5 (.inl rfl)
                have A5 : w.heap.size ≤ W5.heap.size := Nat.le_trans hwb hg35.size
                have O5 : Hid (W5.heap[OB]? = some (.cells #[.int .i64 st, .slice va R.length vc, .slice ua m uc] 28)) := pair_old hg35 HOB.out
                have I5 : Hid (W5.heap[IB]? = some (.cells #[.int .i64 st, .slice ra R.length rc, .slice (some ⟨b, o, none⟩) V.length wc] 28)) := pair_old hg35 HIB.out
                have R5 : Hid (W5.heap[RB]? = some (.cells #[.int .i64 0, .slice none 0 0, .slice none 0 0] 28)) := pair_old hg35 HRB.out
                have HG5 : Hid (w.grownBy W5 none) := grown_trans hgw4 hg35
                have OR5 : Hid (OwnR w.heap.size 0 W5 (.slice va R.length vc) R) := HOR.out.grownNone hg35
                clear p1 p2 p3 hg5 hgA5
                refine hK _ _ ?_
                clear hK KK
                refine wpAny_ready (rs := [4]) (by kernel_rfl) (by simp) ?_
                refine AllReady.cons rfl (fun KK hK => ?_) ?_
                · skip
                  go_simp
                  rw [← HW5.out]
                  refine hK _ _ ?_
                  clear hK KK
                  refine wpAny_ready (rs := [5]) (by kernel_rfl) (by simp) ?_
                  refine AllReady.cons rfl (fun KK hK => ?_) ?_
                  · refine step_append_wrX (by rfl) _ _ (by rfl) w.heap.size (.slice ua m uc) X (by rfl) A1.out (.slice x1 P.name.length x2) (.slice x3 P.key.length x4) (.slice x5 P.value.length x6) P A2.out A3.out A4.out w5.heap.size B5.out (by rfl) hl80 A5 ?_
                    intro v7 w7 ho7 hg7
                    obtain ⟨a7, c7, e7⟩ := ho7.shape
                    rw [HLN.out] at e7
                    subst e7
                    have O7 := A1.out.block hg7 O5.out txTW
                    obtain ⟨⟨r0, r1, r2⟩, g0, g1, g2⟩ := trip_room2 O7
                    obtain ⟨W8, HW8, hgs8⟩ := set_namedX w7 OB 2 (.slice a7 (m + 1) c7)
                    have NO : Hid (W8.heap[OB]? = some (.cells #[.int .i64 st, .slice va R.length vc, .slice a7 (m + 1) c7] 28)) := by rw [HW8.out]; exact set_self O7
                    have NR : Hid (OwnV w.heap.size 0 W8 (.slice a7 (m + 1) c7) (V.take (m + 1))) := by show OwnV _ _ _ _ _; rw [HT.out, HW8.out]; exact ho7.setOther O7 txT5 txTW (Nat.zero_le _) _
                    have NI : Hid (W8.heap[IB]? = some (.cells #[.int .i64 st, .slice ra R.length rc, .slice (some ⟨b, o, none⟩) V.length wc] 28)) := by show _ = _; rw [HW8.out]; exact set_apart (A1.out.block hg7 I5.out txTW) nIO
                    have NB : Hid (W8.heap[RB]? = some (.cells #[.int .i64 0, .slice none 0 0, .slice none 0 0] 28)) := by show _ = _; rw [HW8.out]; exact set_apart (A1.out.block hg7 R5.out txTW) nRO
                    have NG : Hid (w.grownBy W8 none) := by show World.grownBy _ _ _; rw [HW8.out]; exact grown_setNew (grown_ownV HG5.out A1.out (Nat.le_refl _) hg7) _ wOB _ _
                    have NRR : Hid (OwnR w.heap.size 0 W8 (.slice va R.length vc) R) := by show OwnR _ _ _ _ _; rw [HW8.out]; exact (OR5.out.keptV A1.out hg7).setOther O7 txT5 txTR (Nat.zero_le _) _
                    clear ho7 hg7 O7 hgs8 hg35
                    refine hK _ _ ?_
                    clear hK KK
                    refine wpAny_take (i := 6) (v := ?_) rfl (by kernel_rfl) (by kernel_rfl) (by kernel_rfl) (fun _ _ _ h => h) (Or.inl ⟨by kernel_rfl, ?_⟩) ?_
                    rotate_left 1
                    · intro w; go_simp
                      try with_reducible rfl
                    refine wpAny_ready (rs := [7]) (by kernel_rfl) (by simp) ?_
                    refine AllReady.cons rfl (fun KK hK => ?_) ?_
                    · go_simp
                      rw [← HW8.out]
                      refine hK _ _ ?_
                      clear hK KK
                      refine wpAny_done (by kernel_rfl) ?_ _
                      clear g0 g1 g2 f1 f2 r0 r1 r2 e1
                      go_wp2_with fail
                      go_roundw
                      case rel =>
                        first
                          | exact ⟨m + 1, by go_num, by omega, ⟨a7, c7, NO.out, NR.out⟩, NRR.out, NI.out, NB.out, NG.out⟩
                          | ((repeat apply Exists.intro); refine ⟨⟨m + 1, ?_, by omega, ⟨a7, c7, NO.out, NR.out⟩, NRR.out, NI.out, NB.out, NG.out⟩, rfl⟩; go_num)
                      case measure => simp [intOf]; omega
                    exact AllReady.nil
                  exact AllReady.nil
                exact AllReady.nil
              exact AllReady.nil
            refine AllReady.cons rfl (fun KK hK => ?_) ?_
            · skip
              go_simp
              refine (CL.out _ hgd).mono ?_
              rintro e w5 ⟨x1, x2, x3, x4, x5, x6, rfl, p1, p2, p3, hg5⟩
              have f1 := hg5.cell e1 (by simp)
              obtain ⟨W5, HW5, hgA5, B5⟩ := alloc_namedX w5 (.cells #[.slice x1 P.name.length x2, .slice x3 P.key.length x4, .bool P.gone, .slice x5 P.value.length x6] 53)
              have f2 := hgA5.cell f1 (by simp)
              have hg35 : W4.grownBy W5 none := grown_trans hgd (grown_trans hg5 hgA5)
              have A1 : Hid (OwnV w.heap.size 0 W5 (.slice ua m uc) X) := HO.out.grownNone hg35
              have A2 : Hid (PartIs 0 W5 (.slice x1 P.name.length x2) P.name) := p1.keptT hgA5 (.inl rfl)
              have A3 : Hid (PartIs 0 W5 (.slice x3 P.key.length x4) P.key) := p2.keptT hgA5 (.inl rfl)
              have A4 : Hid (PartIs 0 W5 (.slice x5 P.value.length x6) P.value) := p3.keptT hgA5 (.inl rfl)
              have A5 : w.heap.size ≤ W5.heap.size := Nat.le_trans hwb hg35.size
              have O5 : Hid (W5.heap[OB]? = some (.cells #[.int .i64 st, .slice va R.length vc, .slice ua m uc] 28)) := pair_old hg35 HOB.out
              have I5 : Hid (W5.heap[IB]? = some (.cells #[.int .i64 st, .slice ra R.length rc, .slice (some ⟨b, o, none⟩) V.length wc] 28)) := pair_old hg35 HIB.out
              have R5 : Hid (W5.heap[RB]? = some (.cells #[.int .i64 0, .slice none 0 0, .slice none 0 0] 28)) := pair_old hg35 HRB.out
              have HG5 : Hid (w.grownBy W5 none) := grown_trans hgw4 hg35
              have OR5 : Hid (OwnR w.heap.size 0 W5 (.slice va R.length vc) R) := HOR.out.grownNone hg35
              clear p1 p2 p3 hg5 hgA5
              refine hK _ _ ?_
              clear hK KK
              refine wpAny_ready (rs := [1, 4]) (by kernel_rfl) (by simp) ?_
              refine AllReady.cons rfl (fun KK hK => ?_) ?_
              · skip
                go_simp
                refine hK _ _ ?_
                clear hK KK
                refine wpAny_ready (rs := [4]) (by kernel_rfl) (by simp) ?_
                refine AllReady.cons rfl (fun KK hK => ?_) ?_
                · skip
                  go_simp
                  rw [← HW5.out]
                  refine hK _ _ ?_
                  clear hK KK
                  refine wpAny_ready (rs := [5]) (by kernel_rfl) (by simp) ?_
                  refine AllReady.cons rfl (fun KK hK => ?_) ?_
                  · refine step_append_wrX (by rfl) _ _ (by rfl) w.heap.size (.slice ua m uc) X (by rfl) A1.out (.slice x1 P.name.length x2) (.slice x3 P.key.length x4) (.slice x5 P.value.length x6) P A2.out A3.out A4.out w5.heap.size B5.out (by rfl) hl80 A5 ?_
                    intro v7 w7 ho7 hg7
                    obtain ⟨a7, c7, e7⟩ := ho7.shape
                    rw [HLN.out] at e7
                    subst e7
                    have O7 := A1.out.block hg7 O5.out txTW
                    obtain ⟨⟨r0, r1, r2⟩, g0, g1, g2⟩ := trip_room2 O7
                    obtain ⟨W8, HW8, hgs8⟩ := set_namedX w7 OB 2 (.slice a7 (m + 1) c7)
                    have NO : Hid (W8.heap[OB]? = some (.cells #[.int .i64 st, .slice va R.length vc, .slice a7 (m + 1) c7] 28)) := by rw [HW8.out]; exact set_self O7
                    have NR : Hid (OwnV w.heap.size 0 W8 (.slice a7 (m + 1) c7) (V.take (m + 1))) := by show OwnV _ _ _ _ _; rw [HT.out, HW8.out]; exact ho7.setOther O7 txT5 txTW (Nat.zero_le _) _
                    have NI : Hid (W8.heap[IB]? = some (.cells #[.int .i64 st, .slice ra R.length rc, .slice (some ⟨b, o, none⟩) V.length wc] 28)) := by show _ = _; rw [HW8.out]; exact set_apart (A1.out.block hg7 I5.out txTW) nIO
                    have NB : Hid (W8.heap[RB]? = some (.cells #[.int .i64 0, .slice none 0 0, .slice none 0 0] 28)) := by show _ = _; rw [HW8.out]; exact set_apart (A1.out.block hg7 R5.out txTW) nRO
                    have NG : Hid (w.grownBy W8 none) := by show World.grownBy _ _ _; rw [HW8.out]; exact grown_setNew (grown_ownV HG5.out A1.out (Nat.le_refl _) hg7) _ wOB _ _
                    have NRR : Hid (OwnR w.heap.size 0 W8 (.slice va R.length vc) R) := by show OwnR _ _ _ _ _; rw [HW8.out]; exact (OR5.out.keptV A1.out hg7).setOther O7 txT5 txTR (Nat.zero_le _) _
                    clear ho7 hg7 O7 hgs8 hg35
                    refine hK _ _ ?_
                    clear hK KK
                    refine wpAny_take (i := 6) (v := ?_) rfl (by kernel_rfl) (by kernel_rfl) (by kernel_rfl) (fun _ _ _ h => h) (Or.inl ⟨by kernel_rfl, ?_⟩) ?_
                    rotate_left 1
                    · intro w; go_simp
                      try with_reducible rfl
                    refine wpAny_ready (rs := [7]) (by kernel_rfl) (by simp) ?_
                    refine AllReady.cons rfl (fun KK hK => ?_) ?_
                    · go_simp
                      rw [← HW8.out]
                      refine hK _ _ ?_
                      clear hK KK
                      refine wpAny_done (by kernel_rfl) ?_ _
                      clear g0 g1 g2 f1 f2 r0 r1 r2 e1
                      go_wp2_with fail
                      go_roundw
                      case rel =>
                        first
                          | exact ⟨m + 1, by go_num, by omega, ⟨a7, c7, NO.out, NR.out⟩, NRR.out, NI.out, NB.out, NG.out⟩
                          | ((repeat apply Exists.intro); refine ⟨⟨m + 1, ?_, by omega, ⟨a7, c7, NO.out, NR.out⟩, NRR.out, NI.out, NB.out, NG.out⟩, rfl⟩; go_num)
                      case measure => simp [intOf]; omega
                    exact AllReady.nil
                  exact AllReady.nil
                exact AllReady.nil
              refine AllReady.cons rfl (fun KK hK => ?_) ?_
              · skip
                go_simp
                rw [← HW5.out]
                refine hK _ _ ?_
                clear hK KK
                refine wpAny_ready (rs := [1]) (by kernel_rfl) (by simp) ?_
                refine AllReady.cons rfl (fun KK hK => ?_) ?_
                · skip
                  go_simp
                  refine hK _ _ ?_
                  clear hK KK
                  refine wpAny_ready (rs := [5]) (by kernel_rfl) (by simp) ?_
                  refine AllReady.cons rfl (fun KK hK => ?_) ?_
                  · refine step_append_wrX (by rfl) _ _ (by rfl) w.heap.size (.slice ua m uc) X (by rfl) A1.out (.slice x1 P.name.length x2) (.slice x3 P.key.length x4) (.slice x5 P.value.length x6) P A2.out A3.out A4.out w5.heap.size B5.out (by rfl) hl80 A5 ?_
                    intro v7 w7 ho7 hg7
                    obtain ⟨a7, c7, e7⟩ := ho7.shape
                    rw [HLN.out] at e7
                    subst e7
                    have O7 := A1.out.block hg7 O5.out txTW
                    obtain ⟨⟨r0, r1, r2⟩, g0, g1, g2⟩ := trip_room2 O7
                    obtain ⟨W8, HW8, hgs8⟩ := set_namedX w7 OB 2 (.slice a7 (m + 1) c7)
                    have NO : Hid (W8.heap[OB]? = some (.cells #[.int .i64 st, .slice va R.length vc, .slice a7 (m + 1) c7] 28)) := by rw [HW8.out]; exact set_self O7
                    have NR : Hid (OwnV w.heap.size 0 W8 (.slice a7 (m + 1) c7) (V.take (m + 1))) := by show OwnV _ _ _ _ _; rw [HT.out, HW8.out]; exact ho7.setOther O7 txT5 txTW (Nat.zero_le _) _
                    have NI : Hid (W8.heap[IB]? = some (.cells #[.int .i64 st, .slice ra R.length rc, .slice (some ⟨b, o, none⟩) V.length wc] 28)) := by show _ = _; rw [HW8.out]; exact set_apart (A1.out.block hg7 I5.out txTW) nIO
                    have NB : Hid (W8.heap[RB]? = some (.cells #[.int .i64 0, .slice none 0 0, .slice none 0 0] 28)) := by show _ = _; rw [HW8.out]; exact set_apart (A1.out.block hg7 R5.out txTW) nRO
                    have NG : Hid (w.grownBy W8 none) := by show World.grownBy _ _ _; rw [HW8.out]; exact grown_setNew (grown_ownV HG5.out A1.out (Nat.le_refl _) hg7) _ wOB _ _
                    have NRR : Hid (OwnR w.heap.size 0 W8 (.slice va R.length vc) R) := by show OwnR _ _ _ _ _; rw [HW8.out]; exact (OR5.out.keptV A1.out hg7).setOther O7 txT5 txTR (Nat.zero_le _) _
                    clear ho7 hg7 O7 hgs8 hg35
                    refine hK _ _ ?_
                    clear hK KK
                    refine wpAny_take (i := 6) (v := ?_) rfl (by kernel_rfl) (by kernel_rfl) (by kernel_rfl) (fun _ _ _ h => h) (Or.inl ⟨by kernel_rfl, ?_⟩) ?_
                    rotate_left 1
                    · intro w; go_simp
                      try with_reducible rfl
                    refine wpAny_ready (rs := [7]) (by kernel_rfl) (by simp) ?_
                    refine AllReady.cons rfl (fun KK hK => ?_) ?_
                    · go_simp
                      rw [← HW8.out]
                      refine hK _ _ ?_
                      clear hK KK
                      refine wpAny_done (by kernel_rfl) ?_ _
                      clear g0 g1 g2 f1 f2 r0 r1 r2 e1
                      go_wp2_with fail
                      go_roundw
                      case rel =>
                        first
                          | exact ⟨m + 1, by go_num, by omega, ⟨a7, c7, NO.out, NR.out⟩, NRR.out, NI.out, NB.out, NG.out⟩
                          | ((repeat apply Exists.intro); refine ⟨⟨m + 1, ?_, by omega, ⟨a7, c7, NO.out, NR.out⟩, NRR.out, NI.out, NB.out, NG.out⟩, rfl⟩; go_num)
                      case measure => simp [intOf]; omega
                    exact AllReady.nil
                  exact AllReady.nil
                exact AllReady.nil
              exact AllReady.nil
            exact AllReady.nil
          exact AllReady.nil
        · obtain rfl : m = V.length := by omega
          have i1 : ¬ (V.length : Int) < (V.length : Int) := by omega
          rw [List.take_length] at hown
          obtain ⟨⟨e0, e1, e2⟩, _⟩ := trip_room2 hO
          obtain ⟨⟨f0, f1, f2⟩, g0, g1, g2⟩ := trip_room2 hRb
          have b1 := set_self (i := 0) (u := .int .i64 st) hRb
          have b2 := set_self (i := 1) (u := .slice va R.length vc) b1
          have b3 := set_self (i := 2) (u := .slice ua V.length uc) b2
          obtain ⟨⟨k0, k1, k2⟩, _⟩ := trip_room2 (x := .int .i64 st) (y := .slice va R.length vc) (z := .slice ua V.length uc) b3
          have FR : Hid (OwnR w.heap.size 0 (((wr.setCell ⟨RB, 0, none⟩ (.int .i64 st)).setCell ⟨RB, 1, none⟩ (.slice va R.length vc)).setCell ⟨RB, 2, none⟩ (.slice ua V.length uc)) (.slice va R.length vc) R) := ((hOR.setOther hRb txT5 txTR (Nat.zero_le _) _).setOther b1 txT5 txTR (Nat.zero_le _) _).setOther b2 txT5 txTR (Nat.zero_le _) _
          have FV : Hid (OwnV w.heap.size 0 (((wr.setCell ⟨RB, 0, none⟩ (.int .i64 st)).setCell ⟨RB, 1, none⟩ (.slice va R.length vc)).setCell ⟨RB, 2, none⟩ (.slice ua V.length uc)) (.slice ua V.length uc) V) := ((hown.setOther hRb txT5 txTW (Nat.zero_le _) _).setOther b1 txT5 txTW (Nat.zero_le _) _).setOther b2 txT5 txTW (Nat.zero_le _) _
          have FG : Hid (w.grownBy (((wr.setCell ⟨RB, 0, none⟩ (.int .i64 st)).setCell ⟨RB, 1, none⟩ (.slice va R.length vc)).setCell ⟨RB, 2, none⟩ (.slice ua V.length uc)) none) := grown_setNew (grown_setNew (grown_setNew hg _ wRB _ _) _ wRB _ _) _ wRB _ _
          clear hown hO hOR hI hRb b1 b2 b3
          go_wp2
          refine bodyPost_ret (v := .agg #[.int .i64 st, .slice va R.length vc, .slice ua V.length uc]) (by simp [results, Try.results34, go_sem, k0, k1, k2]) rfl ?_
          exact ⟨va, vc, ua, uc, rfl, FR.out, FV.out, FG.out⟩
end Go.Proofs.Ytpmfbfflacbmjac
