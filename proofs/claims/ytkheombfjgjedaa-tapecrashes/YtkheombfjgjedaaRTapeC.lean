/-
  The document's answer: TapeCrashed.
-/
import Derived.Test.YtkheombfjgjedaaRTapeM
namespace Go.Proofs.Ytkheombfjgjedaa
open Go.RowKit
set_option maxRecDepth 100000 in
set_option maxHeartbeats 1000000 in
theorem tapeCrashed_any (w : World) (v : Value) (t : Tap) (keep : Int) (hv : TapeIs w v t) (hk0 : -9223372036854775808 ≤ keep) (hk1 : keep ≤ 9223372036854775807) :
    Calls Try.prog 23 #[v, .int .i64 keep] w fun e w' => ∃ x, e = .returned (.tuple #[x, .int .i64 (crashE t keep)]) ∧ TapeIs w' x (crashT t keep) ∧ w.grownBy w' none := by
  obtain ⟨a, cap, rfl⟩ := hv.agg
  obtain ⟨U0, HU0, hgU, BU⟩ := alloc_named4 w (.cells #[.slice a t.data.length cap, .int .i64 t.synced] 39)
  obtain ⟨W0, HW0, hgA, B0⟩ := alloc_named4 U0 (.cells #[.slice none 0 0, .int .i64 0] 39)
  have HW : Hid (W0 = (w.alloc (.cells #[.slice a t.data.length cap, .int .i64 t.synced] 39)).alloc (.cells #[.slice none 0 0, .int .i64 0] 39)) := by show _ = _; rw [HW0.out, HU0.out]
  have hsz : U0.heap.size = w.heap.size + 1 := by rw [HU0.out]; simp
  rw [hsz] at B0
  clear hsz
  have hg0 := grown_trans hgU hgA
  have B1 : Hid (W0.heap[w.heap.size]? = some (.cells #[.slice a t.data.length cap, .int .i64 t.synced] 39)) := by
    show _ = _
    rw [hgA.block _ (Array.getElem?_eq_some_iff.1 BU.out).1 (by simp)]; exact BU.out
  obtain ⟨c0, c1, _, _⟩ := pair_room (grown_refl W0 none) B1.out
  have TM : Hid (Calls Try.prog 36 #[.agg #[.slice a t.data.length cap, .int .i64 t.synced]] W0 fun e w' => e = .returned (.bool (mayT t)) ∧ W0.grownBy w' none) := tapeMay_any W0 _ t (hv.grown hg0)
  have HD : Hid (SliceIs W0 (.slice a t.data.length cap) t.data) := hv.data.1.grown hg0
  by_cases hm : mayT t = true
  · obtain ⟨m1, m2, m3⟩ := (mayT_iff t).1 hm
    rw [hm] at TM
    by_cases hk : keep < 0
    · have E1 : Hid (crashE t keep = 2) := by show _ = _; rw [crashE, if_pos hm, if_pos hk]
      have E2 : Hid (crashT t keep = noTap) := by show _ = _; rw [crashT, E1.out, if_neg (by decide)]
      clear hv hm
      go_enter Try.func23, Try.ntmps23
      go_upto_region 1 with fail
      rw [← HW.out]
      go_wp2_with fail
      refine TM.out.mono ?_
      rintro e w1 ⟨rfl, hg1⟩
      obtain ⟨r0, r1, r2, r3⟩ := pair_room hg1 B0.out
      obtain ⟨z0, z1⟩ := pair_set hg1 B0.out (.slice none 0 0) (.int .i64 0)
      go_wp2
      refine bodyPost_ret (v := .tuple #[.agg #[.slice none 0 0, .int .i64 0], .int .i64 2]) (by simp [results, Try.results23, go_sem, z0, z1]) rfl ?_
      exact ⟨_, by rw [E1.out], by rw [E2.out]; exact tapeIs_no _, grown_setNew (grown_setNew (grown_trans hg0 hg1) _ (by omega) _ _) _ (by omega) _ _⟩
    · have E1 : Hid (crashE t keep = 0) := by show _ = _; rw [crashE, if_pos hm, if_neg hk]
      have E2 : Hid (crashT t keep = ⟨t.data.take (crashN t keep), (crashN t keep : Int)⟩) := by show _ = _; rw [crashT, if_pos E1.out]
      have hcap := hv.data.1.cap.1
      have hnl : crashN t keep ≤ t.data.length := by unfold crashN; split <;> omega
      obtain ⟨a1, k1, q1, q2⟩ := bslice_h a cap t.data (crashN t keep) hnl hcap
      have JN : Hid (∀ w', W0.grownBy w' none → Calls Try.prog 30 #[.slice a1 (crashN t keep) k1, .slice none 0 0] w' fun e w'' => ∃ v', e = .returned v' ∧ SliceIs w'' v' (t.data.take (crashN t keep)) ∧ w'.grownBy w'' none) := fun w' hg => by
        have h := joined_gen w' _ _ _ _ (q2 w' (HD.out.grown hg)) (sliceIs_nil w') (by simp; omega)
        rw [List.append_nil] at h
        refine h.mono ?_
        rintro e w'' ⟨v', rfl, h1, h2⟩
        exact ⟨v', rfl, h1.slice, h2⟩
      have HN : Hid (crashN t keep = if keep < (t.data.length : Int) - t.synced then (t.synced + keep).toNat else t.data.length) := rfl
      obtain ⟨P, hP⟩ : ∃ P, P = t.data.take (crashN t keep) := ⟨_, rfl⟩
      rw [← hP] at JN E2
      have hPl : P.length = crashN t keep := by rw [hP]; simp; omega
      generalize crashN t keep = n at *
      clear hP hv hm hcap
      by_cases hc : keep < (t.data.length : Int) - t.synced
      · have hn : (n : Int) = t.synced + keep := by have := HN.out; rw [if_pos hc] at this; omega
        have q1' : ∀ W, (Instr.slice 29 (.slice a t.data.length cap) none (some (.int .i64 (t.synced + keep))) none).run Try.prog W = .ok (.slice a1 n k1) W := by rw [← hn]; exact q1
        have HNN : Hid ((n : Int) = t.synced + keep) := hn
        clear hn q1
        go_enter Try.func23, Try.ntmps23
        go_upto_region 1 with fail
        rw [← HW.out]
        go_wp2_with fail
        refine TM.out.mono ?_
        rintro e w1 ⟨rfl, hg1⟩
        obtain ⟨r0, r1, r2, r3⟩ := pair_room hg1 B0.out
        obtain ⟨d0, d1, _, _⟩ := pair_room hg1 B1.out
        have q1w := q1' w1
        go_wp2_with fail
        refine (JN.out _ hg1).mono ?_
        rintro e w2 ⟨x2, rfl, h2, hg2⟩
        obtain ⟨xa, xc, rfl⟩ := h2.shape
        rw [hPl] at h2 ⊢
        clear r0 r1 r2 r3 d0 d1
        obtain ⟨r0, r1, r2, r3⟩ := pair_room (grown_trans hg1 hg2) B0.out
        obtain ⟨z0, z1⟩ := pair_set (grown_trans hg1 hg2) B0.out (.slice xa n xc) (.int .i64 (t.synced + keep))
        have hb2 := pair_set2 (grown_trans hg1 hg2) B0.out
        have HX : Hid (SliceIs w2 (.slice xa n xc) P) := h2
        clear h2
        go_wp2
        refine bodyPost_ret (v := .tuple #[.agg #[.slice xa n xc, .int .i64 (t.synced + keep)], .int .i64 0]) (by simp [results, Try.results23, go_sem, z0, z1]) rfl ?_
        exact ⟨_, by rw [E1.out], by rw [E2.out]; exact ⟨_, by rw [HNN.out], HX.out.tapeS hb2 _ _⟩, grown_setNew (grown_setNew (grown_trans hg0 (grown_trans hg1 hg2)) _ (by omega) _ _) _ (by omega) _ _⟩
      · have hn : n = t.data.length := by have := HN.out; rw [if_neg hc] at this; exact this
        subst hn
        clear HN
        go_enter Try.func23, Try.ntmps23
        go_upto_region 1 with fail
        rw [← HW.out]
        go_wp2_with fail
        refine TM.out.mono ?_
        rintro e w1 ⟨rfl, hg1⟩
        obtain ⟨r0, r1, r2, r3⟩ := pair_room hg1 B0.out
        obtain ⟨d0, d1, _, _⟩ := pair_room hg1 B1.out
        have q1w := q1 w1
        go_wp2_with fail
        refine (JN.out _ hg1).mono ?_
        rintro e w2 ⟨x2, rfl, h2, hg2⟩
        obtain ⟨xa, xc, rfl⟩ := h2.shape
        rw [hPl] at h2 ⊢
        clear r0 r1 r2 r3 d0 d1
        obtain ⟨r0, r1, r2, r3⟩ := pair_room (grown_trans hg1 hg2) B0.out
        obtain ⟨z0, z1⟩ := pair_set (grown_trans hg1 hg2) B0.out (.slice xa t.data.length xc) (.int .i64 (t.data.length : Int))
        have hb2 := pair_set2 (grown_trans hg1 hg2) B0.out
        have HX : Hid (SliceIs w2 (.slice xa t.data.length xc) P) := h2
        clear h2
        go_wp2
        refine bodyPost_ret (v := .tuple #[.agg #[.slice xa t.data.length xc, .int .i64 (t.data.length : Int)], .int .i64 0]) (by simp [results, Try.results23, go_sem, z0, z1]) rfl ?_
        exact ⟨_, by rw [E1.out], by rw [E2.out]; exact ⟨_, rfl, HX.out.tapeS hb2 _ _⟩, grown_setNew (grown_setNew (grown_trans hg0 (grown_trans hg1 hg2)) _ (by omega) _ _) _ (by omega) _ _⟩
  · have E1 : Hid (crashE t keep = 6) := by show _ = _; rw [crashE, if_neg hm]
    have E2 : Hid (crashT t keep = noTap) := by show _ = _; rw [crashT, E1.out, if_neg (by decide)]
    rw [show mayT t = false by simpa using hm] at TM
    clear hv hm
    go_enter Try.func23, Try.ntmps23
    go_upto_region 1 with fail
    rw [← HW.out]
    go_wp2_with fail
    refine TM.out.mono ?_
    rintro e w1 ⟨rfl, hg1⟩
    obtain ⟨r0, r1, r2, r3⟩ := pair_room hg1 B0.out
    obtain ⟨z0, z1⟩ := pair_set hg1 B0.out (.slice none 0 0) (.int .i64 0)
    go_wp2
    refine bodyPost_ret (v := .tuple #[.agg #[.slice none 0 0, .int .i64 0], .int .i64 6]) (by simp [results, Try.results23, go_sem, z0, z1]) rfl ?_
    exact ⟨_, by rw [E1.out], by rw [E2.out]; exact tapeIs_no _, grown_setNew (grown_setNew (grown_trans hg0 hg1) _ (by omega) _ _) _ (by omega) _ _⟩
end Go.Proofs.Ytkheombfjgjedaa
