/-
  Texts of this proof, joined: RdrP, RdrW, RdrC.
-/
import Derived.Test.YtkheombfjgjedabDoorPart4
import Derived.Test.YtkheombfjgjedabDoorCloneP
/-
  The reader of package tape, as it landed: text and number.
-/
namespace Go.Proofs.YtkheombfjgjedabDoor
open Go.RowKit
set_option maxRecDepth 100000 in
set_option maxHeartbeats 1000000 in
theorem text_any (w0 w : World) (b : Nat) (r : Rdr) (n : Nat) (hr : RdrAt w0 w b r) (hn : n ≤ 140737488355328) :
    Calls Tryd.prog 85 #[.pointer (some ⟨b, 0, none⟩), .int .i64 (n : Int)] w fun e w' => ∃ x, e = .returned x ∧ PartIs 0 w' x (txtF r n) ∧ RdrAt w0 w' b (txtR r n) ∧ w.grownBy w' (some b) := by
  have hbl := hr.lt
  have hR := hr
  obtain ⟨a, cap, hb, hs0⟩ := hr.at_
  have hs := hr.now hs0
  clear hr
  obtain ⟨c0, c1, f0, f1⟩ := pair_room (grown_refl w none) hb
  have HB : Hid (w.heap[b]? = some (.cells #[.slice a r.rest.length cap, .bool r.short] 74)) := hb
  have HS : Hid (SliceIs w0 (.slice a r.rest.length cap) r.rest) := hs0
  have HR : Hid (RdrAt w0 w b r) := hR
  clear hR hs0
  have nilP : ∀ W : World, PartIs 0 W (.slice none 0 0) [] := fun W => Own.part (own_nil 0 W)
  by_cases hsh : r.short = true
  · obtain ⟨e1, e2⟩ := txt_bad (n := n) (.inl hsh)
    rw [e1, e2]
    rw [hsh] at c1
    clear hb hs
    go_enter Tryd.func85, Tryd.ntmps85
    go_wp2
    go_ret
    exact ⟨_, rfl, nilP _, ⟨⟨a, cap, set_self HB.out, HS.out⟩, HR.out.old, grown_trans HR.out.grown (set_grown _ _ _ _)⟩, set_grown _ _ _ _⟩
  · have hsf : r.short = false := by simpa using hsh
    rw [hsf] at c1
    by_cases hlt : r.rest.length < n
    · obtain ⟨e1, e2⟩ := txt_bad (r := r) (.inr hlt)
      have i1 : (n : Int) > (r.rest.length : Int) := by omega
      rw [e1, e2]
      clear hb hs
      go_enter Tryd.func85, Tryd.ntmps85
      go_wp2
      go_ret
      exact ⟨_, rfl, nilP _, ⟨⟨a, cap, set_self HB.out, HS.out⟩, HR.out.old, grown_trans HR.out.grown (set_grown _ _ _ _)⟩, set_grown _ _ _ _⟩
    · obtain ⟨e1, e2⟩ := txt_good (r := r) (n := n) (by simp [hsf]; omega)
      have i1 : ¬ (n : Int) > (r.rest.length : Int) := by omega
      rw [e1, e2]
      have hcap := hs.cap.1
      obtain ⟨a1, k1, q1, q2⟩ := bslice_h a cap r.rest n (by omega) hcap
      obtain ⟨a2, k2, p1, p2⟩ := bslice_l a cap r.rest n (by omega)
      have CL : Hid (Calls Tryd.prog 17 #[.slice a1 n k1] w fun e w' => ∃ v', e = .returned v' ∧ Own w.heap.size w' v' (r.rest.take n) ∧ w.grownBy w' none) := clone_any w _ _ (q2 w hs) (by simp; omega)
      have q1w := q1 w
      have hdl : (r.rest.drop n).length = r.rest.length - n := by simp
      have P2 : Hid (∀ W, SliceIs W (.slice a r.rest.length cap) r.rest → SliceIs W (.slice a2 (r.rest.length - n) k2) (r.rest.drop n)) := p2
      have hTK : (r.rest.take n).length ≤ n := by simp; omega
      generalize r.rest.take n = TK at *
      clear hb hs q1 q2 p2 e1 e2
      go_enter Tryd.func85, Tryd.ntmps85
      go_wp2_with fail
      refine CL.out.mono ?_
      rintro e w1 ⟨x, rfl, ho, hg⟩
      have hb1 : w1.heap[b]? = some (.cells #[.slice a r.rest.length cap, .bool false] 74) := by rw [hg.block b hbl (by simp), ← hsf]; exact HB.out
      clear c0 c1 f0 f1
      obtain ⟨c0, c1, f0, f1⟩ := pair_room (grown_refl w1 none) hb1
      have p1w := p1 w1
      have HB1 : Hid (w1.heap[b]? = some (.cells #[.slice a r.rest.length cap, .bool false] 74)) := hb1
      have HO : Hid (Own w.heap.size w1 x TK) := ho
      obtain ⟨xa, xc, rfl⟩ := ho.shape
      clear hb1 ho p1 q1w
      go_wp2
      go_ret
      have hgs := set_grown w1 b 0 (.slice a2 (r.rest.length - n) k2)
      refine ⟨_, rfl, ?_, ?_, ?_⟩
      · refine Own.part (HO.out.grown hgs ?_)
        right
        intro e
        have := (HO.out.lt b e).1
        omega
      · refine ⟨⟨a2, k2, ?_, ?_⟩, HR.out.old, grown_trans HR.out.grown (grown_trans (grown_of_none hg _) hgs)⟩
        · show _ = some (Obj.cells #[.slice a2 (r.rest.drop n).length k2, .bool false] _)
          rw [hdl]
          exact set_self HB1.out
        · show SliceIs _ (.slice a2 (r.rest.drop n).length k2) (r.rest.drop n)
          rw [hdl]
          exact P2.out _ HS.out
      · exact grown_trans (grown_of_none hg _) hgs
set_option maxRecDepth 100000 in
set_option maxHeartbeats 1000000 in
theorem number_any (w0 w : World) (b : Nat) (r : Rdr) (hr : RdrAt w0 w b r) :
    Calls Tryd.prog 66 #[.pointer (some ⟨b, 0, none⟩)] w fun e w' => e = .returned (.int .i64 (numF r : Int)) ∧ RdrAt w0 w' b (numR r) ∧ w.grownBy w' (some b) := by
  have TX : Hid (Calls Tryd.prog 85 #[.pointer (some ⟨b, 0, none⟩), .int .i64 1] w fun e w' => ∃ x, e = .returned x ∧ PartIs 0 w' x (txtF r 1) ∧ RdrAt w0 w' b (numR r) ∧ w.grownBy w' (some b)) := text_any w0 w b r 1 hr (by omega)
  clear hr
  cases hsh : (numR r).short with
  | true =>
    have e1 : numF r = 0 := by rw [numF, if_pos hsh]
    rw [e1]
    go_enter Tryd.func66, Tryd.ntmps66
    go_wp2_with fail
    refine TX.out.mono ?_
    rintro e w1 ⟨x, rfl, hx, hr1, hg⟩
    have HR : Hid (RdrAt w0 w1 b (numR r)) := hr1
    obtain ⟨a, cap, hb, hs⟩ := hr1.at_
    obtain ⟨c0, c1, f0, f1⟩ := pair_room (grown_refl w1 none) hb
    rw [hsh] at c1
    obtain ⟨xa, xc, rfl⟩ := hx.1.shape
    clear hb hs hx
    go_wp2
    go_ret
    exact ⟨rfl, HR.out, hg⟩
  | false =>
    have e1 : numF r = ((txtF r 1).getD 0 0).toNat := by rw [numF, if_neg (by simp [hsh])]
    have e2 : (txtF r 1).length = 1 := by
      unfold numR txtR at hsh
      by_cases h : r.short = true ∨ r.rest.length < 1
      · rw [if_pos h] at hsh; cases hsh
      · rw [(txt_good h).1, List.length_take]
        have : ¬ r.rest.length < 1 := fun hh => h (.inr hh)
        omega
    rw [e1]
    generalize txtF r 1 = T at *
    have x0 := (T.getD 0 0).toNat_lt
    have HN0 : Hid (∃ n0, (T.getD 0 0).toNat = n0) := ⟨_, rfl⟩
    obtain ⟨n0, hn0⟩ := HN0.out
    rw [hn0] at x0 ⊢
    clear HN0 e1
    go_enter Tryd.func66, Tryd.ntmps66
    go_wp2_with fail
    refine TX.out.mono ?_
    rintro e w1 ⟨x, rfl, hx, hr1, hg⟩
    have HR : Hid (RdrAt w0 w1 b (numR r)) := hr1
    obtain ⟨a, cap, hb, hs⟩ := hr1.at_
    obtain ⟨c0, c1, f0, f1⟩ := pair_room (grown_refl w1 none) hb
    rw [hsh] at c1
    obtain ⟨xa, xc, rfl⟩ := hx.1.shape
    obtain ⟨pb, po, rfl, hB⟩ := hx.1.byte 0 (by omega)
    have d0 := hB 0 (by omega)
    rw [Nat.add_zero] at d0
    rw [e2]
    rw [hn0] at d0
    clear hn0
    clear hb hs hx hB
    go_wp2
    go_ret
    exact ⟨rfl, HR.out, hg⟩
end Go.Proofs.YtkheombfjgjedabDoor

/-
  The reader of package tape, as it landed: write.
-/
namespace Go.Proofs.YtkheombfjgjedabDoor
open Go.RowKit
abbrev zeroWr : Obj := .cells #[.slice none 0 0, .slice none 0 0, .bool false, .slice none 0 0] 52
set_option maxRecDepth 100000 in
set_option maxHeartbeats 2000000 in
theorem rwrite_any (w0 w : World) (b : Nat) (r : Rdr) (hr : RdrAt w0 w b r) :
    Calls Tryd.prog 67 #[.pointer (some ⟨b, 0, none⟩)] w fun e w' => ∃ vn vk vv, e = .returned (.agg #[vn, vk, .bool (wrF r).gone, vv]) ∧ PartIs 0 w' vn (wrF r).name ∧ PartIs 0 w' vk (wrF r).key ∧ PartIs 0 w' vv (wrF r).value ∧ RdrAt w0 w' b (wrR r) ∧ w.grownBy w' (some b) := by
  have hbl := hr.lt
  have hw0 := hr.grown.size
  obtain ⟨W0, HW0, hg0, B0⟩ := alloc_named0 w (.cells #[.slice none 0 0, .slice none 0 0, .bool false, .slice none 0 0] 52)
  have N1 : Hid (Calls Tryd.prog 66 #[.pointer (some ⟨b, 0, none⟩)] W0 fun e w' => e = .returned (.int .i64 (numF r : Int)) ∧ RdrAt w0 w' b (numR r) ∧ W0.grownBy w' (some b)) := number_any w0 W0 b r (hr.kept hg0)
  have T1 : Hid (∀ w', RdrAt w0 w' b (numR r) → Calls Tryd.prog 85 #[.pointer (some ⟨b, 0, none⟩), .int .i64 (numF r : Int)] w' fun e w'' => ∃ x, e = .returned x ∧ PartIs 0 w'' x (pcF r) ∧ RdrAt w0 w'' b (pcR r) ∧ w'.grownBy w'' (some b)) := fun w' h => text_any w0 w' b _ _ h (by have := num_small r; omega)
  have N2 : Hid (∀ w', RdrAt w0 w' b (pcR r) → Calls Tryd.prog 66 #[.pointer (some ⟨b, 0, none⟩)] w' fun e w'' => e = .returned (.int .i64 (numF (pcR r) : Int)) ∧ RdrAt w0 w'' b (numR (pcR r)) ∧ w'.grownBy w'' (some b)) := fun w' h => number_any w0 w' b _ h
  have T2 : Hid (∀ w', RdrAt w0 w' b (numR (pcR r)) → Calls Tryd.prog 85 #[.pointer (some ⟨b, 0, none⟩), .int .i64 (numF (pcR r) : Int)] w' fun e w'' => ∃ x, e = .returned x ∧ PartIs 0 w'' x (pcF (pcR r)) ∧ RdrAt w0 w'' b (pcR (pcR r)) ∧ w'.grownBy w'' (some b)) := fun w' h => text_any w0 w' b _ _ h (by have := num_small (pcR r); omega)
  have N3 : Hid (∀ w', RdrAt w0 w' b (pcR (pcR r)) → Calls Tryd.prog 66 #[.pointer (some ⟨b, 0, none⟩)] w' fun e w'' => e = .returned (.int .i64 (numF (pcR (pcR r)) : Int)) ∧ RdrAt w0 w'' b (numR (pcR (pcR r))) ∧ w'.grownBy w'' (some b)) := fun w' h => number_any w0 w' b _ h
  have T3 : Hid (∀ w', RdrAt w0 w' b (numR (pcR (pcR r))) → Calls Tryd.prog 85 #[.pointer (some ⟨b, 0, none⟩), .int .i64 (numF (pcR (pcR r)) : Int)] w' fun e w'' => ∃ x, e = .returned x ∧ PartIs 0 w'' x (pcF (pcR (pcR r))) ∧ RdrAt w0 w'' b (pcR (pcR (pcR r))) ∧ w'.grownBy w'' (some b)) := fun w' h => text_any w0 w' b _ _ h (by have := num_small (pcR (pcR r)); omega)
  have l3 := num_small (pcR (pcR r))
  unfold wrF wrR
  generalize numF (pcR (pcR r)) = n3 at *
  generalize numR (pcR (pcR r)) = r5 at *
  generalize pcF (pcR (pcR r)) = p3 at *
  generalize pcR (pcR (pcR r)) = r6 at *
  generalize pcR (pcR r) = r4 at *
  generalize pcF (pcR r) = p2 at *
  generalize numF (pcR r) = n2 at *
  generalize numR (pcR r) = r3 at *
  generalize pcR r = r2 at *
  generalize pcF r = p1 at *
  generalize numF r = n1 at *
  generalize numR r = r1 at *
  go_enter Tryd.func67, Tryd.ntmps67
  go_upto_region 1 with fail
  rw [← HW0.out]
  go_wp2_with fail
  refine N1.out.mono ?_
  rintro e w1 ⟨rfl, hr1, hg1⟩
  go_wp2_with fail
  refine (T1.out _ hr1).mono ?_
  rintro e w2 ⟨x2, rfl, hx2, hr2, hg2⟩
  obtain ⟨xa2, xc2, rfl⟩ := hx2.1.shape
  go_wp2_with fail
  refine (N2.out _ hr2).mono ?_
  rintro e w3 ⟨rfl, hr3, hg3⟩
  go_wp2_with fail
  refine (T2.out _ hr3).mono ?_
  rintro e w4 ⟨x4, rfl, hx4, hr4, hg4⟩
  obtain ⟨xa4, xc4, rfl⟩ := hx4.1.shape
  obtain ⟨W5, HW5, hg5, B5⟩ := alloc_named0 w4 (.cells #[.slice xa2 p1.length xc2, .slice xa4 p2.length xc4, .bool false, .slice none 0 0] 52)
  have hr5 : RdrAt w0 W5 b r4 := hr4.kept hg5
  have hWs : W0.heap.size = w.heap.size + 1 := by rw [HW0.out]; simp
  have hB0 : W5.heap[w.heap.size]? = some (.cells #[.slice none 0 0, .slice none 0 0, .bool false, .slice none 0 0] 52) := by
    have h1 := rdr_other hg1 B0.out (by omega)
    have h2 := rdr_other hg2 h1 (by omega)
    have h3 := rdr_other hg3 h2 (by omega)
    have h4 := rdr_other hg4 h3 (by omega)
    exact pair_old hg5 h4
  have hgA : w.grownBy W5 (some b) := grown_trans (grown_of_none hg0 _) (grown_trans hg1 (grown_trans hg2 (grown_trans hg3 (grown_trans hg4 (grown_of_none hg5 _)))))
  have X2 : Hid (PartIs 0 W5 (.slice xa2 p1.length xc2) p1) := ((hx2.rdr hr2 hg3).rdr hr3 hg4).keptT hg5 (.inl rfl)
  have X4 : Hid (PartIs 0 W5 (.slice xa4 p2.length xc4) p2) := hx4.keptT hg5 (.inl rfl)
  have hw4 : w.heap.size < w4.heap.size := by
    have h1 := hg1.size
    have h2 := hg2.size
    have h3 := hg3.size
    have h4 := hg4.size
    omega
  have HB0' : Hid (W5.heap[w.heap.size]? = some (.cells #[.slice none 0 0, .slice none 0 0, .bool false, .slice none 0 0] 52)) := hB0
  have HA : Hid (w.grownBy W5 (some b)) := hgA
  clear hx2 hx4 hr1 hr2 hr3 hr4 hg1 hg2 hg3 hg4 hg5 hB0 hgA hWs N1 T1 N2 T2 hg0 B0 hr
  go_upto_region 2 with fail
  rw [← HW5.out]
  go_wp2_with fail
  refine (N3.out _ hr5).mono ?_
  rintro e w6 ⟨rfl, hr6, hg6⟩
  have hB5 := rdr_other hg6 B5.out (by omega)
  have hB0 := rdr_other hg6 HB0'.out (by omega)
  have X2' : Hid (PartIs 0 w6 (.slice xa2 p1.length xc2) p1) := X2.out.rdr hr5 hg6
  have X4' : Hid (PartIs 0 w6 (.slice xa4 p2.length xc4) p2) := X4.out.rdr hr5 hg6
  have HA' : Hid (w.grownBy w6 (some b)) := grown_trans HA.out hg6
  clear X2 X4 HA HB0' B5 HW5 N3 hg6 hr5
  obtain ⟨WB, hWB⟩ : ∃ WB, WB = w4.heap.size := ⟨_, rfl⟩
  obtain ⟨RB, hRB⟩ : ∃ RB, RB = w.heap.size := ⟨_, rfl⟩
  have hRw : w.heap.size ≤ RB := by omega
  have hWw : w.heap.size ≤ WB := by omega
  have hbW : b ≠ WB := by omega
  have hbR : b ≠ RB := by omega
  have hRW : RB ≠ WB := by omega
  rw [← hWB] at hB5 ⊢
  rw [← hRB] at hB0 ⊢
  clear hWB hRB hw4 hbl
  by_cases hz : n3 = 255
  · subst hz
    clear T3 l3
    obtain ⟨⟨t0, t1, t2, t3⟩, f0, f1, f2, f3, _⟩ := quad_room (grown_refl w6 none) hB5
    obtain ⟨V, HV, hgV⟩ := set_named0 w6 WB 2 (.bool true)
    have hVW : V.heap[WB]? = some (.cells #[.slice xa2 p1.length xc2, .slice xa4 p2.length xc4, .bool true, .slice none 0 0] 52) := by rw [HV.out]; exact set_self hB5
    have hVR : V.heap[RB]? = some (.cells #[.slice none 0 0, .slice none 0 0, .bool false, .slice none 0 0] 52) := by rw [HV.out]; exact set_apart hB0 hRW
    have hVr : RdrAt w0 V b r5 := hr6.apart hbW (Nat.le_trans hw0 hWw) hgV
    have X2 : Hid (PartIs 0 V (.slice xa2 p1.length xc2) p1) := X2'.out.keptT hgV (.inr ⟨WB, _, _, _, rfl, Nat.zero_le _, hB5, wrT5⟩)
    have X4 : Hid (PartIs 0 V (.slice xa4 p2.length xc4) p2) := X4'.out.keptT hgV (.inr ⟨WB, _, _, _, rfl, Nat.zero_le _, hB5, wrT5⟩)
    have HA : Hid (w.grownBy V (some b)) := by rw [HV.out]; exact grown_setNew HA'.out _ hWw _ _
    go_upto_region 6 with fail
    rw [← HV.out]
    clear t0 t1 t2 t3 f0 f1 f2 f3 hB5 hB0 hr6 X2' X4' HA'
    obtain ⟨⟨t0, t1, t2, t3⟩, f0, f1, f2, f3, _⟩ := quad_room (grown_refl V none) hVW
    obtain ⟨_, g0, g1, g2, g3, _⟩ := quad_room (grown_refl V none) hVR
    obtain ⟨hF, _⟩ := quad_set hVR (.slice xa2 p1.length xc2) (.slice xa4 p2.length xc4) (.bool true) (.slice none 0 0)
    obtain ⟨⟨z0, z1, z2, z3⟩, _⟩ := quad_room (grown_refl _ none) hF
    have hgF : V.grownBy ((((V.setCell ⟨RB, 0, none⟩ (.slice xa2 p1.length xc2)).setCell ⟨RB, 1, none⟩ (.slice xa4 p2.length xc4)).setCell ⟨RB, 2, none⟩ (.bool true)).setCell ⟨RB, 3, none⟩ (.slice none 0 0)) (some RB) := grown_set (grown_set (grown_set (grown_set (grown_refl _ _) _ _) _ _) _ _) _ _
    have hrow : some RB = none ∨ ∃ g cur t fz, some RB = some g ∧ 0 ≤ g ∧ V.heap[g]? = some (.cells cur t fz) ∧ t ≠ 5 := .inr ⟨RB, _, _, _, rfl, Nat.zero_le _, hVR, wrT5⟩
    have Y2 : Hid (PartIs 0 ((((V.setCell ⟨RB, 0, none⟩ (.slice xa2 p1.length xc2)).setCell ⟨RB, 1, none⟩ (.slice xa4 p2.length xc4)).setCell ⟨RB, 2, none⟩ (.bool true)).setCell ⟨RB, 3, none⟩ (.slice none 0 0)) (.slice xa2 p1.length xc2) p1) := X2.out.keptT hgF hrow
    have Y4 : Hid (PartIs 0 ((((V.setCell ⟨RB, 0, none⟩ (.slice xa2 p1.length xc2)).setCell ⟨RB, 1, none⟩ (.slice xa4 p2.length xc4)).setCell ⟨RB, 2, none⟩ (.bool true)).setCell ⟨RB, 3, none⟩ (.slice none 0 0)) (.slice xa4 p2.length xc4) p2) := X4.out.keptT hgF hrow
    have YR : Hid (RdrAt w0 ((((V.setCell ⟨RB, 0, none⟩ (.slice xa2 p1.length xc2)).setCell ⟨RB, 1, none⟩ (.slice xa4 p2.length xc4)).setCell ⟨RB, 2, none⟩ (.bool true)).setCell ⟨RB, 3, none⟩ (.slice none 0 0)) b r5) := hVr.apart hbR (Nat.le_trans hw0 hRw) hgF
    have YG : Hid (w.grownBy ((((V.setCell ⟨RB, 0, none⟩ (.slice xa2 p1.length xc2)).setCell ⟨RB, 1, none⟩ (.slice xa4 p2.length xc4)).setCell ⟨RB, 2, none⟩ (.bool true)).setCell ⟨RB, 3, none⟩ (.slice none 0 0)) (some b)) := grown_setNew (grown_setNew (grown_setNew (grown_setNew HA.out _ hRw _ _) _ hRw _ _) _ hRw _ _) _ hRw _ _
    clear hVW hVR hVr hF hgF hrow X2 X4 HA
    go_wp2
    refine bodyPost_ret (v := .agg #[.slice xa2 p1.length xc2, .slice xa4 p2.length xc4, .bool true, .slice none 0 0]) (by simp [results, Tryd.results67, go_sem, z0, z1, z2, z3]) rfl ?_
    exact ⟨_, _, _, rfl, Y2.out, Y4.out, Own.part (own_nil 0 _), YR.out, YG.out⟩
  · have hz' : ((n3 : Int) == 255) = false := by simp only [beq_eq_false_iff_ne, ne_eq]; omega
    go_wp2_with fail
    refine (T3.out _ hr6).mono ?_
    rintro e w7 ⟨x7, rfl, hx7, hr7, hg7⟩
    obtain ⟨xa7, xc7, rfl⟩ := hx7.1.shape
    have hC5 := rdr_other hg7 hB5 (Ne.symm hbW)
    have hC0 := rdr_other hg7 hB0 (Ne.symm hbR)
    obtain ⟨⟨t0, t1, t2, t3⟩, f0, f1, f2, f3, _⟩ := quad_room (grown_refl w7 none) hC5
    obtain ⟨V, HV, hgV⟩ := set_named0 w7 WB 3 (.slice xa7 p3.length xc7)
    have hVW : V.heap[WB]? = some (.cells #[.slice xa2 p1.length xc2, .slice xa4 p2.length xc4, .bool false, .slice xa7 p3.length xc7] 52) := by rw [HV.out]; exact set_self hC5
    have hVR : V.heap[RB]? = some (.cells #[.slice none 0 0, .slice none 0 0, .bool false, .slice none 0 0] 52) := by rw [HV.out]; exact set_apart hC0 hRW
    have hVr : RdrAt w0 V b r6 := hr7.apart hbW (Nat.le_trans hw0 hWw) hgV
    have X2 : Hid (PartIs 0 V (.slice xa2 p1.length xc2) p1) := (X2'.out.rdr hr6 hg7).keptT hgV (.inr ⟨WB, _, _, _, rfl, Nat.zero_le _, hC5, wrT5⟩)
    have X4 : Hid (PartIs 0 V (.slice xa4 p2.length xc4) p2) := (X4'.out.rdr hr6 hg7).keptT hgV (.inr ⟨WB, _, _, _, rfl, Nat.zero_le _, hC5, wrT5⟩)
    have X7 : Hid (PartIs 0 V (.slice xa7 p3.length xc7) p3) := hx7.keptT hgV (.inr ⟨WB, _, _, _, rfl, Nat.zero_le _, hC5, wrT5⟩)
    have HA : Hid (w.grownBy V (some b)) := by rw [HV.out]; exact grown_setNew (grown_trans HA'.out hg7) _ hWw _ _
    clear hB5 hB0 hr6 X2' X4' HA' hx7 hr7
    go_upto_region 6 with fail
    rw [← HV.out]
    clear t0 t1 t2 t3 f0 f1 f2 f3 hC5 hC0
    obtain ⟨⟨t0, t1, t2, t3⟩, f0, f1, f2, f3, _⟩ := quad_room (grown_refl V none) hVW
    obtain ⟨_, g0, g1, g2, g3, _⟩ := quad_room (grown_refl V none) hVR
    obtain ⟨hF, _⟩ := quad_set hVR (.slice xa2 p1.length xc2) (.slice xa4 p2.length xc4) (.bool false) (.slice xa7 p3.length xc7)
    obtain ⟨⟨z0, z1, z2, z3⟩, _⟩ := quad_room (grown_refl _ none) hF
    have hgF : V.grownBy ((((V.setCell ⟨RB, 0, none⟩ (.slice xa2 p1.length xc2)).setCell ⟨RB, 1, none⟩ (.slice xa4 p2.length xc4)).setCell ⟨RB, 2, none⟩ (.bool false)).setCell ⟨RB, 3, none⟩ (.slice xa7 p3.length xc7)) (some RB) := grown_set (grown_set (grown_set (grown_set (grown_refl _ _) _ _) _ _) _ _) _ _
    have hrow : some RB = none ∨ ∃ g cur t fz, some RB = some g ∧ 0 ≤ g ∧ V.heap[g]? = some (.cells cur t fz) ∧ t ≠ 5 := .inr ⟨RB, _, _, _, rfl, Nat.zero_le _, hVR, wrT5⟩
    have Y2 : Hid (PartIs 0 ((((V.setCell ⟨RB, 0, none⟩ (.slice xa2 p1.length xc2)).setCell ⟨RB, 1, none⟩ (.slice xa4 p2.length xc4)).setCell ⟨RB, 2, none⟩ (.bool false)).setCell ⟨RB, 3, none⟩ (.slice xa7 p3.length xc7)) (.slice xa2 p1.length xc2) p1) := X2.out.keptT hgF hrow
    have Y4 : Hid (PartIs 0 ((((V.setCell ⟨RB, 0, none⟩ (.slice xa2 p1.length xc2)).setCell ⟨RB, 1, none⟩ (.slice xa4 p2.length xc4)).setCell ⟨RB, 2, none⟩ (.bool false)).setCell ⟨RB, 3, none⟩ (.slice xa7 p3.length xc7)) (.slice xa4 p2.length xc4) p2) := X4.out.keptT hgF hrow
    have Y7 : Hid (PartIs 0 ((((V.setCell ⟨RB, 0, none⟩ (.slice xa2 p1.length xc2)).setCell ⟨RB, 1, none⟩ (.slice xa4 p2.length xc4)).setCell ⟨RB, 2, none⟩ (.bool false)).setCell ⟨RB, 3, none⟩ (.slice xa7 p3.length xc7)) (.slice xa7 p3.length xc7) p3) := X7.out.keptT hgF hrow
    have YR : Hid (RdrAt w0 ((((V.setCell ⟨RB, 0, none⟩ (.slice xa2 p1.length xc2)).setCell ⟨RB, 1, none⟩ (.slice xa4 p2.length xc4)).setCell ⟨RB, 2, none⟩ (.bool false)).setCell ⟨RB, 3, none⟩ (.slice xa7 p3.length xc7)) b r6) := hVr.apart hbR (Nat.le_trans hw0 hRw) hgF
    have YG : Hid (w.grownBy ((((V.setCell ⟨RB, 0, none⟩ (.slice xa2 p1.length xc2)).setCell ⟨RB, 1, none⟩ (.slice xa4 p2.length xc4)).setCell ⟨RB, 2, none⟩ (.bool false)).setCell ⟨RB, 3, none⟩ (.slice xa7 p3.length xc7)) (some b)) := grown_setNew (grown_setNew (grown_setNew (grown_setNew HA.out _ hRw _ _) _ hRw _ _) _ hRw _ _) _ hRw _ _
    clear hVW hVR hVr hF hgF hrow X2 X4 X7 HA hg7
    go_wp2
    refine bodyPost_ret (v := .agg #[.slice xa2 p1.length xc2, .slice xa4 p2.length xc4, .bool false, .slice xa7 p3.length xc7]) (by simp [results, Tryd.results67, go_sem, z0, z1, z2, z3]) rfl ?_
    exact ⟨_, _, _, rfl, Y2.out, Y4.out, Y7.out, YR.out, YG.out⟩
end Go.Proofs.YtkheombfjgjedabDoor

/-
  The reader of package tape, as it landed: commit.
-/
namespace Go.Proofs.YtkheombfjgjedabDoor
open Go.RowKit
theorem bits_or_nat (a b : Nat) (ha : a < 4611686018427387904) (hb : b < 4611686018427387904) : bits .or .i64 (a : Int) (b : Int) = ((a ||| b : Nat) : Int) := by
  have h : a ||| b < 2 ^ 62 := Nat.or_lt_two_pow ha hb
  show IntKind.i64.wrap (((BitVec.ofInt 64 (a : Int) ||| BitVec.ofInt 64 (b : Int)).toNat : Nat) : Int) = _
  rw [BitVec.ofInt_natCast, BitVec.ofInt_natCast, BitVec.toNat_or, BitVec.toNat_ofNat, BitVec.toNat_ofNat, Nat.mod_eq_of_lt (show a < 2 ^ 64 by omega), Nat.mod_eq_of_lt (show b < 2 ^ 64 by omega), IntKind.wrap_i64]
  omega
theorem turn_bits (n1 n2 n3 : Nat) (h1 : n1 < 256) (h2 : n2 < 256) (h3 : n3 < 256) : bits .or .i64 (bits .or .i64 ((n1 : Int) * 65536) ((n2 : Int) * 256)) (n3 : Int) = ((65536 * n1 + 256 * n2 + n3 : Nat) : Int) := by
  have e1 : bits .or .i64 ((n1 : Int) * 65536) ((n2 : Int) * 256) = ((n1 * 65536 + n2 * 256 : Nat) : Int) := by
    have h := bits_or_nat (n1 * 65536) (n2 * 256) (by omega) (by omega)
    have h2 := Nat.shiftLeft_add_eq_or_of_lt (show n2 * 256 < 2 ^ 16 by omega) n1
    rw [Nat.shiftLeft_eq, show (2 : Nat) ^ 16 = 65536 from rfl] at h2
    rw [← h2] at h
    rw [← h, Int.natCast_mul, Int.natCast_mul]
    rfl
  have h := Nat.shiftLeft_add_eq_or_of_lt (show n3 < 2 ^ 8 by omega) (n1 * 256 + n2)
  rw [Nat.shiftLeft_eq, show (2 : Nat) ^ 8 = 256 from rfl] at h
  have e2 : (n1 * 256 + n2) * 256 = n1 * 65536 + n2 * 256 := by rw [Nat.add_mul, Nat.mul_assoc]
  rw [e2] at h
  have e3 := bits_or_nat (n1 * 65536 + n2 * 256) n3 (by omega) (by omega)
  rw [← h] at e3
  rw [e1, e3]
  omega
/-- append(v, x) of one write, at a step of a region that draws its order. -/
theorem step_append_wrV {w : World} {ops : Array Oper} {o : Oper} {a : Act} {K : Act → World → Prop} {Q : Exit → Act → World → Prop} {E : Prop} (hgd : o.guard = none) (s x : Operand)
    (ho : o.op = .call { callee := .builtin .append, args := #[s, x], argTypes := #[41, 41] }) (rb : Nat) (v : Value) (l : List Plc) (hs : a.eval s = v) (hown : OwnV rb 0 w v l)
    (vn vk vv : Value) (p : Plc) (h1 : PartIs 0 w vn p.name) (h2 : PartIs 0 w vk p.key) (h3 : PartIs 0 w vv p.value) (nb : Nat) (hb : w.heap[nb]? = some (.cells #[vn, vk, .bool p.gone, vv] 52))
    (hx : a.eval x = .slice (some ⟨nb, 0, none⟩) 1 1) (hl : (l.length + 1) * 80 ≤ 140737488355328) (hbase : rb ≤ w.heap.size)
    (h : ∀ v' w', OwnV rb 0 w' v' (l ++ [p]) → w.grownBy w' v.ownBlock → K (a.put o.dst v') w') : if Region.wanted o (yielded ops a.tmps) = true then Oper.wp Tryd.prog o a w K Q else E := by
  have hw : Region.wanted o (yielded ops a.tmps) = true := by simp [Region.wanted, hgd]
  rw [if_pos hw]
  obtain ⟨i0, hi, hz0, hz1, hz2⟩ := info_parts infoWr
  have hrow : v.ownBlock = none ∨ ∃ g cur t fz, v.ownBlock = some g ∧ 0 ≤ g ∧ w.heap[g]? = some (.cells cur t fz) ∧ t ≠ 5 := by
    rcases hown.row with h | ⟨g, cur, fz, e, _, h⟩
    · exact .inl h
    · exact .inr ⟨g, cur, _, fz, e, Nat.zero_le _, h, wrT5⟩
  obtain ⟨us, hul, hr, hp⟩ := hown
  refine wp_append_lies w s x 41 ho rb 52 i0 (.agg #[.slice none 0 0, .slice none 0 0, .bool false, .slice none 0 0]) 4 80 Tryd.underlying41 hi hz0 hz1 hz2 rfl (by decide) v l.length (flatW us) hs hr ⟨nb, 0, none⟩ 1 1 (flatW [(p, vn, vk, vv)]) hx rfl (World.news_of_block (cs := #[vn, vk, .bool p.gone, vv]) hb) ?_ (by omega) (by unfold maxLen; omega) hl hbase _ rfl ?_
  · intro u hu
    simp only [flatW, List.flatMap_cons, List.flatMap_nil, List.append_nil, List.mem_cons, List.not_mem_nil, or_false] at hu
    rcases hu with rfl | rfl | rfl | rfl
    · exact part_oneCell h1
    · exact part_oneCell h2
    · rfl
    · exact part_oneCell h3
  · intro g cap w' q1 q2 _ _
    refine h _ w' ⟨us ++ [(p, vn, vk, vv)], by simp [hul], ?_, ?_⟩ q2
    · rw [flatW_append, List.length_append]; exact q1
    · intro y hy
      rcases List.mem_append.1 hy with hy | hy
      · exact ⟨(hp y hy).1.keptT q2 hrow, (hp y hy).2.1.keptT q2 hrow, (hp y hy).2.2.keptT q2 hrow⟩
      · simp only [List.mem_cons, List.not_mem_nil, or_false] at hy
        subst hy
        exact ⟨h1.keptT q2 hrow, h2.keptT q2 hrow, h3.keptT q2 hrow⟩
theorem two_cellsR {w : World} {b : Nat} {x y : Value} {t : TypeId} (h : w.heap[b]? = some (.cells #[x, y] t)) : w.cell? ⟨b, 0, none⟩ = some x ∧ w.cell? ⟨b, 1, none⟩ = some y ∧ w.frozen? ⟨b, 0, none⟩ = false ∧ w.frozen? ⟨b, 1, none⟩ = false := by
  refine ⟨?_, ?_, ?_, ?_⟩ <;> simp [World.cell?, World.frozen?, h]
theorem two_setR {w : World} {b : Nat} {x y : Value} {t : TypeId} (h : w.heap[b]? = some (.cells #[x, y] t)) (u v : Value) : ((w.setCell ⟨b, 0, none⟩ u).setCell ⟨b, 1, none⟩ v).heap[b]? = some (.cells #[u, v] t) := set_self (set_self h)
set_option maxRecDepth 100000 in
set_option maxHeartbeats 2000000 in
theorem rcommit_any (w0 w : World) (b : Nat) (r : Rdr) (hr : RdrAt w0 w b r) :
    Calls Tryd.prog 42 #[.pointer (some ⟨b, 0, none⟩)] w fun e w' => ∃ vs, e = .returned (.agg #[.int .i64 (cmF r).turn, vs]) ∧ OwnV w.heap.size 0 w' vs (cmF r).writes ∧ RdrAt w0 w' b (cmR r) ∧ w.grownBy w' (some b) := by
  have hbl := hr.lt
  obtain ⟨W0, HW0, hg0, B0⟩ := alloc_named0 w (.cells #[.int .i64 0, .slice none 0 0] 43)
  have N1 : Hid (Calls Tryd.prog 66 #[.pointer (some ⟨b, 0, none⟩)] W0 fun e w' => e = .returned (.int .i64 (numF r : Int)) ∧ RdrAt w0 w' b (numR r) ∧ W0.grownBy w' (some b)) := number_any w0 W0 b r (hr.kept hg0)
  have NN : Hid (∀ w' r', RdrAt w0 w' b r' → Calls Tryd.prog 66 #[.pointer (some ⟨b, 0, none⟩)] w' fun e w'' => e = .returned (.int .i64 (numF r' : Int)) ∧ RdrAt w0 w'' b (numR r') ∧ w'.grownBy w'' (some b)) := fun w' r' h => number_any w0 w' b r' h
  have WR : Hid (∀ w' r', RdrAt w0 w' b r' → Calls Tryd.prog 67 #[.pointer (some ⟨b, 0, none⟩)] w' fun e w'' => ∃ vn vk vv, e = .returned (.agg #[vn, vk, .bool (wrF r').gone, vv]) ∧ PartIs 0 w'' vn (wrF r').name ∧ PartIs 0 w'' vk (wrF r').key ∧ PartIs 0 w'' vv (wrF r').value ∧ RdrAt w0 w'' b (wrR r') ∧ w'.grownBy w'' (some b)) := fun w' r' h => rwrite_any w0 w' b r' h
  have l1 := num_small r
  have l2 := num_small (numR r)
  have l3 := num_small (numR (numR r))
  have l4 := num_small (numR (numR (numR r)))
  have HR0 : Hid (RdrAt w0 W0 b r) := hr.kept hg0
  unfold cmF cmR
  dsimp only
  generalize hn1 : numF r = n1 at *
  generalize hr1 : numR r = r1 at *
  generalize hn2 : numF r1 = n2 at *
  generalize hr2 : numR r1 = r2 at *
  generalize hn3 : numF r2 = n3 at *
  generalize hr3 : numR r2 = r3 at *
  generalize hn4 : numF r3 = n4 at *
  generalize hr4 : numR r3 = r4 at *
  have hw0 := hr.grown.size
  obtain ⟨T, hT⟩ : ∃ T : Int, T = ((65536 * n1 + 256 * n2 + n3 : Nat) : Int) := ⟨_, rfl⟩
  rw [← hT]
  clear hr hn1 hr1
  go_enter Tryd.func42, Tryd.ntmps42
  go_upto_region 1 with fail
  rw [← HW0.out]
  go_wp2_with fail
  refine N1.out.mono ?_
  rintro e w1 ⟨rfl, hr1, hg1⟩
  go_wp2_with fail
  refine (NN.out _ _ hr1).mono ?_
  rintro e w2 ⟨rfl, hr2', hg2⟩
  rw [hr2] at hr2'
  rw [hn2]
  go_wp2_with fail
  refine (NN.out _ _ hr2').mono ?_
  rintro e w3 ⟨rfl, hr3', hg3⟩
  rw [hr3] at hr3'
  rw [hn3]
  obtain ⟨W3, HW3, hgA3, B3⟩ := alloc_named0 w3 (.cells #[.int .i64 T, .slice none 0 0] 43)
  have hWs : W0.heap.size = w.heap.size + 1 := by rw [HW0.out]; simp
  have hB0 : W3.heap[w.heap.size]? = some (.cells #[.int .i64 0, .slice none 0 0] 43) :=
    pair_old hgA3 (rdr_other hg3 (rdr_other hg2 (rdr_other hg1 B0.out (by omega)) (by omega)) (by omega))
  have hw3 : w.heap.size < w3.heap.size := by
    have h1 := hg1.size
    have h2 := hg2.size
    have h3 := hg3.size
    omega
  have hgA : w.grownBy W3 (some b) := grown_trans (grown_of_none hg0 _) (grown_trans hg1 (grown_trans hg2 (grown_trans hg3 (grown_of_none hgA3 _))))
  have hr3W : RdrAt w0 W3 b r3 := hr3'.kept hgA3
  have HB0' : Hid (W3.heap[w.heap.size]? = some (.cells #[.int .i64 0, .slice none 0 0] 43)) := hB0
  have HA : Hid (w.grownBy W3 (some b)) := hgA
  have TB := turn_bits n1 n2 n3 l1 l2 l3
  rw [← hT] at TB
  have HTB : Hid (bits .or .i64 (bits .or .i64 ((n1 : Int) * 65536) ((n2 : Int) * 256)) (n3 : Int) = T) := TB
  clear hr1 hr2' hr3' hg1 hg2 hg3 hgA3 hB0 hgA hWs N1 hg0 B0 TB
  go_upto_region 2 with fail
  rw [HTB.out, ← HW3.out]
  go_wp2_with fail
  refine (NN.out _ _ hr3W).mono ?_
  rintro e w4 ⟨rfl, hr4', hg4⟩
  rw [hr4] at hr4'
  rw [hn4]
  have hB3 := rdr_other hg4 B3.out (by omega)
  have hB0 := rdr_other hg4 HB0'.out (by omega)
  have hgw4 := grown_trans HA.out hg4
  obtain ⟨CB, hCB⟩ : ∃ CB, CB = w3.heap.size := ⟨_, rfl⟩
  obtain ⟨RB, hRB⟩ : ∃ RB, RB = w.heap.size := ⟨_, rfl⟩
  have HRB : Hid (RB = w.heap.size) := hRB
  have hRw : w.heap.size ≤ RB := by omega
  have hCw : w.heap.size ≤ CB := by omega
  have hbC : b ≠ CB := by omega
  have hbR : b ≠ RB := by omega
  have hRC : RB ≠ CB := by omega
  have h0R : w0.heap.size ≤ RB := by omega
  have h0C : w0.heap.size ≤ CB := by omega
  rw [← hCB] at hB3 ⊢
  rw [← hRB] at hB0 ⊢
  clear hCB hRB hw3 hbl hr3W HA HB0' B3 HW3 NN hg4 hr2 hr3 hr4 hn2 hn3 hn4 hw0 l1 l2 l3 hT HTB HR0
  go_wp2_with fail
  go_loopw [17] (fun iv wr => ∃ (m : Nat) (vs : Value), m ≤ n4 ∧ iv = .int .i64 (m : Int) ∧ OwnV RB 0 wr vs (wrsF m r4) ∧ wr.heap[CB]? = some (.cells #[.int .i64 T, vs] 43) ∧ wr.heap[RB]? = some (.cells #[.int .i64 0, .slice none 0 0] 43) ∧ RdrAt w0 wr b (wrsR m r4) ∧ w.grownBy wr (some b)) (fun i _ => n4 - (intOf i).toNat)
  case atStart => exact ⟨0, _, by omega, rfl, ownV_nil _ _ _, hB3, hB0, hr4', hgw4⟩
  case round =>
    obtain ⟨m, vs, hm, rfl, hov, hcb, hrb, hrm, hgw⟩ := hrel
    have HWL : Hid ((wrsF m r4).length = m) := wrs_len m r4
    have hFm : wrsF (m + 1) r4 = wrsF m r4 ++ [wrF (wrsR m r4)] := rfl
    have hRm : wrsR (m + 1) r4 = wrR (wrsR m r4) := rfl
    obtain ⟨va, vc, rfl⟩ := hov.shape
    have HOV : Hid (OwnV RB 0 wr (.slice va (wrsF m r4).length vc) (wrsF m r4)) := hov
    have HCB : Hid (wr.heap[CB]? = some (.cells #[.int .i64 T, .slice va (wrsF m r4).length vc] 43)) := hcb
    have HRB2 : Hid (wr.heap[RB]? = some (.cells #[.int .i64 0, .slice none 0 0] 43)) := hrb
    have HRM : Hid (RdrAt w0 wr b (wrsR m r4)) := hrm
    clear hov hrb hrm
    by_cases hlt : m < n4
    · have j1 : (m : Int) < (n4 : Int) := by omega
      have WRm : Hid (∀ w', RdrAt w0 w' b (wrsR m r4) → Calls Tryd.prog 67 #[.pointer (some ⟨b, 0, none⟩)] w' fun e w'' => ∃ vn vk vv, e = .returned (.agg #[vn, vk, .bool (wrF (wrsR m r4)).gone, vv]) ∧ PartIs 0 w'' vn (wrF (wrsR m r4)).name ∧ PartIs 0 w'' vk (wrF (wrsR m r4)).key ∧ PartIs 0 w'' vv (wrF (wrsR m r4)).value ∧ RdrAt w0 w'' b (wrR (wrsR m r4)) ∧ w'.grownBy w'' (some b)) := fun w' h => WR.out w' _ h
      have HF : Hid (wrsF (m + 1) r4 = wrsF m r4 ++ [wrF (wrsR m r4)]) := hFm
      have HRR : Hid (wrsR (m + 1) r4 = wrR (wrsR m r4)) := hRm
      generalize wrF (wrsR m r4) = P at *
      generalize wrR (wrsR m r4) = RN at *
      generalize wrsF m r4 = L at *
      generalize wrsR m r4 = RM at *
      obtain ⟨u0, u1, _, _⟩ := two_cellsR hcb
      have e1 : wr.drew.cell? ⟨CB, 1, none⟩ = some (.slice va L.length vc) := u1
      have hRMd : RdrAt w0 wr.drew b RM := HRM.out.kept (grown_drew (grown_refl _ _))
      have hl80 : (L.length + 1) * 80 ≤ 140737488355328 := by rw [HWL.out]; omega
      clear hcb u0 u1 hFm hRm WR
      go_upto_region 4 with fail
      refine wp_region_any (by kernel_rfl) ?_
      try (change wpAny _ _ _ _ _ _ _ (World.drew _))
      refine wpAny_take (i := 0) (v := ?_) rfl (by kernel_rfl) (by kernel_rfl) (by kernel_rfl) (fun _ _ _ h => h) (Or.inl ⟨by kernel_rfl, ?_⟩) ?_
      rotate_left 1
      · intro w; go_simp
        try with_reducible rfl
      refine wpAny_take (i := 2) (v := ?_) rfl (by kernel_rfl) (by kernel_rfl) (by kernel_rfl) (fun _ _ _ h => h) (Or.inl ⟨by kernel_rfl, ?_⟩) ?_
      rotate_left 1
      · intro w; go_simp
        try with_reducible rfl
      refine wpAny_ready (rs := [1, 3]) (by kernel_rfl) (by simp) ?_
      refine AllReady.cons rfl (fun KK hK => ?_) ?_
      · skip
        go_simp
        refine hK _ _ ?_
        clear hK KK
        refine wpAny_ready (rs := [3]) (by kernel_rfl) (by simp) ?_
        refine AllReady.cons rfl (fun KK hK => ?_) ?_
        · skip
          go_simp
          refine (WRm.out _ hRMd).mono ?_
          rintro e w5 ⟨vn, vk, vv, rfl, pn, pk, pv, hr5, hg5⟩
          obtain ⟨na, nc, rfl⟩ := pn.1.shape
          obtain ⟨ka, kc, rfl⟩ := pk.1.shape
          obtain ⟨ya, yc, rfl⟩ := pv.1.shape
          have f1 := hg5.cell e1 (by simpa using Ne.symm hbC)
          obtain ⟨W5, HW5, hgA5, B5⟩ := alloc_named0 w5 (.cells #[.slice na P.name.length nc, .slice ka P.key.length kc, .bool P.gone, .slice ya P.value.length yc] 52)
          have f2 := hgA5.cell f1 (by simp)
          have OV5 : Hid (OwnV RB 0 W5 (.slice va L.length vc) L) := ((HOV.out.grownNone (grown_drew (grown_refl _ _))).rdr hRMd hg5).grownNone hgA5
          have PN5 : Hid (PartIs 0 W5 (.slice na P.name.length nc) P.name) := pn.keptT hgA5 (.inl rfl)
          have PK5 : Hid (PartIs 0 W5 (.slice ka P.key.length kc) P.key) := pk.keptT hgA5 (.inl rfl)
          have PV5 : Hid (PartIs 0 W5 (.slice ya P.value.length yc) P.value) := pv.keptT hgA5 (.inl rfl)
          have CB5 : Hid (W5.heap[CB]? = some (.cells #[.int .i64 T, .slice va L.length vc] 43)) := pair_old hgA5 (rdr_other hg5 HCB.out (Ne.symm hbC))
          have RB5 : Hid (W5.heap[RB]? = some (.cells #[.int .i64 0, .slice none 0 0] 43)) := pair_old hgA5 (rdr_other hg5 HRB2.out (Ne.symm hbR))
          have RR5 : Hid (RdrAt w0 W5 b RN) := hr5.kept hgA5
          have hRB5 : RB ≤ W5.heap.size := Nat.le_of_lt (Array.getElem?_eq_some_iff.1 RB5.out).1
          have HG5 : Hid (w.grownBy W5 (some b)) := grown_trans hgw (grown_trans (grown_drew (grown_refl _ _)) (grown_trans hg5 (grown_of_none hgA5 _)))
          clear pn pk pv hr5 hg5 hgA5
          refine hK _ _ ?_
          clear hK KK
          refine wpAny_ready (rs := [4]) (by kernel_rfl) (by simp) ?_
          refine AllReady.cons rfl (fun KK hK => ?_) ?_
          · skip
            go_simp
            rw [← HW5.out]
            refine hK _ _ ?_
            clear hK KK
            refine wpAny_ready (rs := [5]) (by kernel_rfl) (by simp) ?_
            refine AllReady.cons rfl (fun KK hK => ?_) ?_
            · refine step_append_wrV (by rfl) _ _ (by rfl) RB (.slice va L.length vc) L (by rfl) OV5.out (.slice na P.name.length nc) (.slice ka P.key.length kc) (.slice ya P.value.length yc) P PN5.out PK5.out PV5.out w5.heap.size B5.out (by rfl) hl80 hRB5 ?_
              intro v6 w6 ho6 hg6
              have hcb6 : w6.heap[CB]? = some (.cells #[.int .i64 T, .slice va L.length vc] 43) := by
                rw [hg6.block CB (Array.getElem?_eq_some_iff.1 CB5.out).1 (fun e => OV5.out.ne CB5.out cmtTW e.symm)]; exact CB5.out
              have hrb6 : w6.heap[RB]? = some (.cells #[.int .i64 0, .slice none 0 0] 43) := by
                rw [hg6.block RB (Array.getElem?_eq_some_iff.1 RB5.out).1 (fun e => OV5.out.ne RB5.out cmtTW e.symm)]; exact RB5.out
              have hrr6 : RdrAt w0 w6 b RN := RR5.out.ownV OV5.out h0R hg6
              have hgw6 : w.grownBy w6 (some b) := by
                cases hv : (Value.slice va L.length vc).ownBlock with
                | none => rw [hv] at hg6; exact grown_trans HG5.out (grown_of_none hg6 _)
                | some g => rw [hv] at hg6; exact grown_new HG5.out (Nat.le_trans hRw (OV5.out.lt g hv).1) hg6
              obtain ⟨va6, vn6, vc6, rfl⟩ := ho6.any
              obtain ⟨g0, g1, g2, g3⟩ := two_cellsR hcb6
              obtain ⟨W7, HW7, hgs7⟩ := set_named0 w6 CB 1 (.slice va6 vn6 vc6)
              have hcb7 : W7.heap[CB]? = some (.cells #[.int .i64 T, .slice va6 vn6 vc6] 43) := by rw [HW7.out]; exact set_self hcb6
              have hrb7 : W7.heap[RB]? = some (.cells #[.int .i64 0, .slice none 0 0] 43) := by rw [HW7.out]; exact set_apart hrb6 hRC
              have hrr7 : RdrAt w0 W7 b RN := hrr6.apart hbC h0C hgs7
              have hgw7 : w.grownBy W7 (some b) := grown_new hgw6 hCw hgs7
              have ho7 : OwnV RB 0 W7 (.slice va6 vn6 vc6) (L ++ [P]) := by rw [HW7.out]; exact ho6.setOther hcb6 cmtT5 cmtTW (Nat.zero_le _) _
              have REL : Hid (∃ vs, OwnV RB 0 W7 vs (wrsF (m + 1) r4) ∧ W7.heap[CB]? = some (.cells #[.int .i64 T, vs] 43) ∧ W7.heap[RB]? = some (.cells #[.int .i64 0, .slice none 0 0] 43) ∧ RdrAt w0 W7 b (wrsR (m + 1) r4) ∧ w.grownBy W7 (some b)) := ⟨_, by rw [HF.out]; exact ho7, hcb7, hrb7, by rw [HRR.out]; exact hrr7, hgw7⟩
              clear hcb6 hrb6 hrr6 hgw6 ho6 hg6 hcb7 hrb7 hrr7 hgw7 ho7 hgs7
              refine hK _ _ ?_
              clear hK KK
              refine wpAny_take (i := 6) (v := ?_) rfl (by kernel_rfl) (by kernel_rfl) (by kernel_rfl) (fun _ _ _ h => h) (Or.inl ⟨by kernel_rfl, ?_⟩) ?_
              rotate_left 1
              · intro w; go_simp
                try with_reducible rfl
              refine wpAny_ready (rs := [7]) (by kernel_rfl) (by simp) ?_
              refine AllReady.cons rfl (fun KK hK => ?_) ?_
              · go_simp
                rw [← HW7.out]
                refine hK _ _ ?_
                clear hK KK
                refine wpAny_done (by kernel_rfl) ?_ _
                clear g0 g1 g2 g3 f1 f2
                go_wp2_with fail
                obtain ⟨vs7, q1, q2, q3, q4, q5⟩ := REL.out
                go_roundw
                case rel => exact ⟨m + 1, vs7, by omega, by go_num, q1, q2, q3, q4, q5⟩
                case measure => simp [intOf]; omega
              exact AllReady.nil
            exact AllReady.nil
          exact AllReady.nil
        exact AllReady.nil
      refine AllReady.cons rfl (fun KK hK => ?_) ?_
      · skip
        go_simp
        refine (WRm.out _ hRMd).mono ?_
        rintro e w5 ⟨vn, vk, vv, rfl, pn, pk, pv, hr5, hg5⟩
        obtain ⟨na, nc, rfl⟩ := pn.1.shape
        obtain ⟨ka, kc, rfl⟩ := pk.1.shape
        obtain ⟨ya, yc, rfl⟩ := pv.1.shape
        have f1 := hg5.cell e1 (by simpa using Ne.symm hbC)
        obtain ⟨W5, HW5, hgA5, B5⟩ := alloc_named0 w5 (.cells #[.slice na P.name.length nc, .slice ka P.key.length kc, .bool P.gone, .slice ya P.value.length yc] 52)
        have f2 := hgA5.cell f1 (by simp)
        have OV5 : Hid (OwnV RB 0 W5 (.slice va L.length vc) L) := ((HOV.out.grownNone (grown_drew (grown_refl _ _))).rdr hRMd hg5).grownNone hgA5
        have PN5 : Hid (PartIs 0 W5 (.slice na P.name.length nc) P.name) := pn.keptT hgA5 (.inl rfl)
        have PK5 : Hid (PartIs 0 W5 (.slice ka P.key.length kc) P.key) := pk.keptT hgA5 (.inl rfl)
        have PV5 : Hid (PartIs 0 W5 (.slice ya P.value.length yc) P.value) := pv.keptT hgA5 (.inl rfl)
        have CB5 : Hid (W5.heap[CB]? = some (.cells #[.int .i64 T, .slice va L.length vc] 43)) := pair_old hgA5 (rdr_other hg5 HCB.out (Ne.symm hbC))
        have RB5 : Hid (W5.heap[RB]? = some (.cells #[.int .i64 0, .slice none 0 0] 43)) := pair_old hgA5 (rdr_other hg5 HRB2.out (Ne.symm hbR))
        have RR5 : Hid (RdrAt w0 W5 b RN) := hr5.kept hgA5
        have hRB5 : RB ≤ W5.heap.size := Nat.le_of_lt (Array.getElem?_eq_some_iff.1 RB5.out).1
        have HG5 : Hid (w.grownBy W5 (some b)) := grown_trans hgw (grown_trans (grown_drew (grown_refl _ _)) (grown_trans hg5 (grown_of_none hgA5 _)))
        clear pn pk pv hr5 hg5 hgA5
        refine hK _ _ ?_
        clear hK KK
        refine wpAny_ready (rs := [1, 4]) (by kernel_rfl) (by simp) ?_
        refine AllReady.cons rfl (fun KK hK => ?_) ?_
        · skip
          go_simp
          refine hK _ _ ?_
          clear hK KK
          refine wpAny_ready (rs := [4]) (by kernel_rfl) (by simp) ?_
          refine AllReady.cons rfl (fun KK hK => ?_) ?_
          · skip
            go_simp
            rw [← HW5.out]
            refine hK _ _ ?_
            clear hK KK
            refine wpAny_ready (rs := [5]) (by kernel_rfl) (by simp) ?_
            refine AllReady.cons rfl (fun KK hK => ?_) ?_
            · refine step_append_wrV (by rfl) _ _ (by rfl) RB (.slice va L.length vc) L (by rfl) OV5.out (.slice na P.name.length nc) (.slice ka P.key.length kc) (.slice ya P.value.length yc) P PN5.out PK5.out PV5.out w5.heap.size B5.out (by rfl) hl80 hRB5 ?_
              intro v6 w6 ho6 hg6
              have hcb6 : w6.heap[CB]? = some (.cells #[.int .i64 T, .slice va L.length vc] 43) := by
                rw [hg6.block CB (Array.getElem?_eq_some_iff.1 CB5.out).1 (fun e => OV5.out.ne CB5.out cmtTW e.symm)]; exact CB5.out
              have hrb6 : w6.heap[RB]? = some (.cells #[.int .i64 0, .slice none 0 0] 43) := by
                rw [hg6.block RB (Array.getElem?_eq_some_iff.1 RB5.out).1 (fun e => OV5.out.ne RB5.out cmtTW e.symm)]; exact RB5.out
              have hrr6 : RdrAt w0 w6 b RN := RR5.out.ownV OV5.out h0R hg6
              have hgw6 : w.grownBy w6 (some b) := by
                cases hv : (Value.slice va L.length vc).ownBlock with
                | none => rw [hv] at hg6; exact grown_trans HG5.out (grown_of_none hg6 _)
                | some g => rw [hv] at hg6; exact grown_new HG5.out (Nat.le_trans hRw (OV5.out.lt g hv).1) hg6
              obtain ⟨va6, vn6, vc6, rfl⟩ := ho6.any
              obtain ⟨g0, g1, g2, g3⟩ := two_cellsR hcb6
              obtain ⟨W7, HW7, hgs7⟩ := set_named0 w6 CB 1 (.slice va6 vn6 vc6)
              have hcb7 : W7.heap[CB]? = some (.cells #[.int .i64 T, .slice va6 vn6 vc6] 43) := by rw [HW7.out]; exact set_self hcb6
              have hrb7 : W7.heap[RB]? = some (.cells #[.int .i64 0, .slice none 0 0] 43) := by rw [HW7.out]; exact set_apart hrb6 hRC
              have hrr7 : RdrAt w0 W7 b RN := hrr6.apart hbC h0C hgs7
              have hgw7 : w.grownBy W7 (some b) := grown_new hgw6 hCw hgs7
              have ho7 : OwnV RB 0 W7 (.slice va6 vn6 vc6) (L ++ [P]) := by rw [HW7.out]; exact ho6.setOther hcb6 cmtT5 cmtTW (Nat.zero_le _) _
              have REL : Hid (∃ vs, OwnV RB 0 W7 vs (wrsF (m + 1) r4) ∧ W7.heap[CB]? = some (.cells #[.int .i64 T, vs] 43) ∧ W7.heap[RB]? = some (.cells #[.int .i64 0, .slice none 0 0] 43) ∧ RdrAt w0 W7 b (wrsR (m + 1) r4) ∧ w.grownBy W7 (some b)) := ⟨_, by rw [HF.out]; exact ho7, hcb7, hrb7, by rw [HRR.out]; exact hrr7, hgw7⟩
              clear hcb6 hrb6 hrr6 hgw6 ho6 hg6 hcb7 hrb7 hrr7 hgw7 ho7 hgs7
              refine hK _ _ ?_
              clear hK KK
              refine wpAny_take (i := 6) (v := ?_) rfl (by kernel_rfl) (by kernel_rfl) (by kernel_rfl) (fun _ _ _ h => h) (Or.inl ⟨by kernel_rfl, ?_⟩) ?_
              rotate_left 1
              · intro w; go_simp
                try with_reducible rfl
              refine wpAny_ready (rs := [7]) (by kernel_rfl) (by simp) ?_
              refine AllReady.cons rfl (fun KK hK => ?_) ?_
              · go_simp
                rw [← HW7.out]
                refine hK _ _ ?_
                clear hK KK
                refine wpAny_done (by kernel_rfl) ?_ _
                clear g0 g1 g2 g3 f1 f2
                go_wp2_with fail
                obtain ⟨vs7, q1, q2, q3, q4, q5⟩ := REL.out
                go_roundw
                case rel => exact ⟨m + 1, vs7, by omega, by go_num, q1, q2, q3, q4, q5⟩
                case measure => simp [intOf]; omega
              exact AllReady.nil
            exact AllReady.nil
          exact AllReady.nil
        refine AllReady.cons rfl (fun KK hK => ?_) ?_
        · skip
          go_simp
          rw [← HW5.out]
          refine hK _ _ ?_
          clear hK KK
          refine wpAny_ready (rs := [1]) (by kernel_rfl) (by simp) ?_
          refine AllReady.cons rfl (fun KK hK => ?_) ?_
          · skip
            go_simp
            refine hK _ _ ?_
            clear hK KK
            refine wpAny_ready (rs := [5]) (by kernel_rfl) (by simp) ?_
            refine AllReady.cons rfl (fun KK hK => ?_) ?_
            · refine step_append_wrV (by rfl) _ _ (by rfl) RB (.slice va L.length vc) L (by rfl) OV5.out (.slice na P.name.length nc) (.slice ka P.key.length kc) (.slice ya P.value.length yc) P PN5.out PK5.out PV5.out w5.heap.size B5.out (by rfl) hl80 hRB5 ?_
              intro v6 w6 ho6 hg6
              have hcb6 : w6.heap[CB]? = some (.cells #[.int .i64 T, .slice va L.length vc] 43) := by
                rw [hg6.block CB (Array.getElem?_eq_some_iff.1 CB5.out).1 (fun e => OV5.out.ne CB5.out cmtTW e.symm)]; exact CB5.out
              have hrb6 : w6.heap[RB]? = some (.cells #[.int .i64 0, .slice none 0 0] 43) := by
                rw [hg6.block RB (Array.getElem?_eq_some_iff.1 RB5.out).1 (fun e => OV5.out.ne RB5.out cmtTW e.symm)]; exact RB5.out
              have hrr6 : RdrAt w0 w6 b RN := RR5.out.ownV OV5.out h0R hg6
              have hgw6 : w.grownBy w6 (some b) := by
                cases hv : (Value.slice va L.length vc).ownBlock with
                | none => rw [hv] at hg6; exact grown_trans HG5.out (grown_of_none hg6 _)
                | some g => rw [hv] at hg6; exact grown_new HG5.out (Nat.le_trans hRw (OV5.out.lt g hv).1) hg6
              obtain ⟨va6, vn6, vc6, rfl⟩ := ho6.any
              obtain ⟨g0, g1, g2, g3⟩ := two_cellsR hcb6
              obtain ⟨W7, HW7, hgs7⟩ := set_named0 w6 CB 1 (.slice va6 vn6 vc6)
              have hcb7 : W7.heap[CB]? = some (.cells #[.int .i64 T, .slice va6 vn6 vc6] 43) := by rw [HW7.out]; exact set_self hcb6
              have hrb7 : W7.heap[RB]? = some (.cells #[.int .i64 0, .slice none 0 0] 43) := by rw [HW7.out]; exact set_apart hrb6 hRC
              have hrr7 : RdrAt w0 W7 b RN := hrr6.apart hbC h0C hgs7
              have hgw7 : w.grownBy W7 (some b) := grown_new hgw6 hCw hgs7
              have ho7 : OwnV RB 0 W7 (.slice va6 vn6 vc6) (L ++ [P]) := by rw [HW7.out]; exact ho6.setOther hcb6 cmtT5 cmtTW (Nat.zero_le _) _
              have REL : Hid (∃ vs, OwnV RB 0 W7 vs (wrsF (m + 1) r4) ∧ W7.heap[CB]? = some (.cells #[.int .i64 T, vs] 43) ∧ W7.heap[RB]? = some (.cells #[.int .i64 0, .slice none 0 0] 43) ∧ RdrAt w0 W7 b (wrsR (m + 1) r4) ∧ w.grownBy W7 (some b)) := ⟨_, by rw [HF.out]; exact ho7, hcb7, hrb7, by rw [HRR.out]; exact hrr7, hgw7⟩
              clear hcb6 hrb6 hrr6 hgw6 ho6 hg6 hcb7 hrb7 hrr7 hgw7 ho7 hgs7
              refine hK _ _ ?_
              clear hK KK
              refine wpAny_take (i := 6) (v := ?_) rfl (by kernel_rfl) (by kernel_rfl) (by kernel_rfl) (fun _ _ _ h => h) (Or.inl ⟨by kernel_rfl, ?_⟩) ?_
              rotate_left 1
              · intro w; go_simp
                try with_reducible rfl
              refine wpAny_ready (rs := [7]) (by kernel_rfl) (by simp) ?_
              refine AllReady.cons rfl (fun KK hK => ?_) ?_
              · go_simp
                rw [← HW7.out]
                refine hK _ _ ?_
                clear hK KK
                refine wpAny_done (by kernel_rfl) ?_ _
                clear g0 g1 g2 g3 f1 f2
                go_wp2_with fail
                obtain ⟨vs7, q1, q2, q3, q4, q5⟩ := REL.out
                go_roundw
                case rel => exact ⟨m + 1, vs7, by omega, by go_num, q1, q2, q3, q4, q5⟩
                case measure => simp [intOf]; omega
              exact AllReady.nil
            exact AllReady.nil
          exact AllReady.nil
        exact AllReady.nil
      exact AllReady.nil
    · obtain rfl : m = n4 := by omega
      have j1 : ¬ (m : Int) < (m : Int) := by omega
      obtain ⟨u0, u1, _, _⟩ := two_cellsR hcb
      obtain ⟨y0, y1, y2, y3⟩ := two_cellsR HRB2.out
      obtain ⟨z0, z1, _, _⟩ := two_cellsR (two_setR HRB2.out (.int .i64 T) (.slice va (wrsF m r4).length vc))
      have hgF : wr.grownBy ((wr.setCell ⟨RB, 0, none⟩ (.int .i64 T)).setCell ⟨RB, 1, none⟩ (.slice va (wrsF m r4).length vc)) (some RB) := grown_set (grown_set (grown_refl _ _) _ _) _ _
      have YO : Hid (OwnV RB 0 ((wr.setCell ⟨RB, 0, none⟩ (.int .i64 T)).setCell ⟨RB, 1, none⟩ (.slice va (wrsF m r4).length vc)) (.slice va (wrsF m r4).length vc) (wrsF m r4)) := (HOV.out.setOther HRB2.out cmtT5 cmtTW (Nat.zero_le _) _).setOther (set_self HRB2.out) cmtT5 cmtTW (Nat.zero_le _) _
      have YR : Hid (RdrAt w0 ((wr.setCell ⟨RB, 0, none⟩ (.int .i64 T)).setCell ⟨RB, 1, none⟩ (.slice va (wrsF m r4).length vc)) b (wrsR m r4)) := HRM.out.apart hbR h0R hgF
      have YG : Hid (w.grownBy ((wr.setCell ⟨RB, 0, none⟩ (.int .i64 T)).setCell ⟨RB, 1, none⟩ (.slice va (wrsF m r4).length vc)) (some b)) := grown_new hgw hRw hgF
      clear hcb hgF hFm hRm WR hgw
      go_wp2
      refine bodyPost_ret (v := .agg #[.int .i64 T, .slice va (wrsF m r4).length vc]) (by simp [results, Tryd.results42, go_sem, z0, z1]) rfl ?_
      exact ⟨_, rfl, by rw [← HRB.out]; exact YO.out, YR.out, YG.out⟩
end Go.Proofs.YtkheombfjgjedabDoor
