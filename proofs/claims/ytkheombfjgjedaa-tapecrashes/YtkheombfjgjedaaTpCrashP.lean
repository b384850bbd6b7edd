/-
  tape.Crash, as it landed, keeps P6.7.
-/
import Derived.Test.YtkheombfjgjedaaTpCrash
import Derived.Test.YtkheombfjgjedaaTpSyncP
import Derived.Test.YtkheombfjgjedaaBSlice
namespace Go.Proofs.Ytkheombfjgjedaa
open Go.RowKit
set_option maxRecDepth 100000 in
set_option maxHeartbeats 1000000 in
theorem tpcrash_ok : TpCrashOK := by
  intro w v t keep hv hl hk0 hk1
  obtain ⟨a, cap, rfl⟩ := hv.agg
  obtain ⟨U0, HU0, hgU, BU⟩ := alloc_namedS w (.cells #[.slice a t.data.length cap, .int .i64 t.synced] 39)
  obtain ⟨W0, HW0, hgA, B0⟩ := alloc_namedS U0 (.cells #[.slice none 0 0, .int .i64 0] 39)
  have HW : Hid (W0 = (w.alloc (.cells #[.slice a t.data.length cap, .int .i64 t.synced] 39)).alloc (.cells #[.slice none 0 0, .int .i64 0] 39)) := by show _ = _; rw [HW0.out, HU0.out]
  have hsz : U0.heap.size = w.heap.size + 1 := by rw [HU0.out]; simp
  rw [hsz] at B0
  clear hsz
  have hg0 := grown_trans hgU hgA
  have B1 : Hid (W0.heap[w.heap.size]? = some (.cells #[.slice a t.data.length cap, .int .i64 t.synced] 39)) := pair_old hgA BU.out
  obtain ⟨c0, c1, _, _⟩ := two_cellsS B1.out
  have TM : Hid (Calls Try.prog 34 #[.agg #[.slice a t.data.length cap, .int .i64 t.synced]] W0 fun e w' => e = .returned (.int .i64 (if mayT t = true then 0 else 6)) ∧ W0.grownBy w' none) := checkTape_any W0 _ t (hv.grown hg0)
  have HD : Hid (SliceIs W0 (.slice a t.data.length cap) t.data) := hv.data.1.grown hg0
  have hcap := hv.data.1.cap.1
  have hld := hl.data
  clear hv hl
  by_cases hm : mayT t = true
  · rw [if_pos hm] at TM
    obtain ⟨m1, m2, m3⟩ := (mayT_iff t).1 hm
    by_cases hk : keep < 0
    · have E1 : crashE t keep = 2 := by rw [crashE, if_pos hm, if_pos hk]
      have E2 : crashT t keep = noTap := by rw [crashT, E1, if_neg (by decide)]
      rw [E1, E2]
      clear hm E1 E2
      go_enter Try.func22, Try.ntmps22
      go_upto_region 1 with fail
      rw [← HW.out]
      go_wp2_with fail
      refine TM.out.mono ?_
      rintro e w1 ⟨rfl, hg1⟩
      have hb2 : w1.heap[w.heap.size + 1]? = some (.cells #[.slice none 0 0, .int .i64 0] 39) := pair_old hg1 B0.out
      obtain ⟨y0, y1, y2, y3⟩ := two_cellsS hb2
      obtain ⟨z0, z1, _, _⟩ := two_cellsS (two_setS hb2 (.slice none 0 0) (.int .i64 0))
      clear c0 c1
      go_wp2
      refine bodyPost_ret (v := .tuple #[.agg #[.slice none 0 0, .int .i64 0], .int .i64 2]) (by simp [results, Try.results22, go_sem, z0, z1]) rfl ?_
      exact ⟨_, rfl, tapeIs_no _, grown_setNew (grown_setNew (grown_trans hg0 hg1) _ (by omega) _ _) _ (by omega) _ _⟩
    · have E1 : crashE t keep = 0 := by rw [crashE, if_pos hm, if_neg hk]
      have E2 : crashT t keep = ⟨t.data.take (crashN t keep), (crashN t keep : Int)⟩ := by rw [crashT, if_pos E1]
      rw [E1, E2]
      have hnl : crashN t keep ≤ t.data.length := by unfold crashN; split <;> omega
      have HN : crashN t keep = if keep < (t.data.length : Int) - t.synced then (t.synced + keep).toNat else t.data.length := rfl
      obtain ⟨a1, k1, q1, q2⟩ := bslice_h a cap t.data (crashN t keep) hnl hcap
      have SY : Hid (∀ w', W0.grownBy w' none → Calls Try.prog 35 #[.slice a1 (crashN t keep) k1] w' fun e w'' => ∃ x, e = .returned (.agg #[x, .int .i64 ((t.data.take (crashN t keep)).length : Int)]) ∧ Own w'.heap.size w'' x (t.data.take (crashN t keep)) ∧ w'.grownBy w'' none) := fun w' hg => synced_any w' _ _ (q2 w' (HD.out.grown hg)) (by simp; omega)
      have hPl : (t.data.take (crashN t keep)).length = crashN t keep := by simp; omega
      rw [hPl] at SY
      generalize t.data.take (crashN t keep) = P at *
      generalize crashN t keep = n at *
      clear hm E1 E2 hcap q2 hPl
      by_cases hc : keep ≤ (t.data.length : Int) - t.synced
      · have hn : (n : Int) = t.synced + keep := by split at HN <;> omega
        rw [hn] at q1
        have HNN : Hid ((n : Int) = t.synced + keep) := hn
        have hmin : min keep ((t.data.length : Int) - t.synced) = keep := by omega
        clear hn HN
        go_enter Try.func22, Try.ntmps22
        go_upto_region 1 with fail
        rw [← HW.out]
        go_wp2_with fail
        refine TM.out.mono ?_
        rintro e w1 ⟨rfl, hg1⟩
        have d0 := hg1.cell c0 (by simp)
        have d1 := hg1.cell c1 (by simp)
        have q1w := q1 w1
        clear c0 c1 q1
        go_wp2_with fail
        refine (SY.out _ hg1).mono ?_
        rintro e w2 ⟨x, rfl, ho, hg2⟩
        have hb2 : w2.heap[w.heap.size + 1]? = some (.cells #[.slice none 0 0, .int .i64 0] 39) := pair_old (grown_trans hg1 hg2) B0.out
        obtain ⟨xa, xn, xc, rfl⟩ : ∃ a n c, x = .slice a n c := by obtain ⟨a, c, e⟩ := ho.shape; exact ⟨a, _, c, e⟩
        obtain ⟨y0, y1, y2, y3⟩ := two_cellsS hb2
        obtain ⟨z0, z1, _, _⟩ := two_cellsS (two_setS hb2 (.slice xa xn xc) (.int .i64 (n : Int)))
        have YO : Hid (SliceIs ((w2.setCell ⟨w.heap.size + 1, 0, none⟩ (.slice xa xn xc)).setCell ⟨w.heap.size + 1, 1, none⟩ (.int .i64 (n : Int))) (.slice xa xn xc) P) := (ho.setTwo hb2 tapS5 _ _).slice
        have YG : Hid (w.grownBy ((w2.setCell ⟨w.heap.size + 1, 0, none⟩ (.slice xa xn xc)).setCell ⟨w.heap.size + 1, 1, none⟩ (.int .i64 (n : Int))) none) := grown_setNew (grown_setNew (grown_trans hg0 (grown_trans hg1 hg2)) _ (by omega) _ _) _ (by omega) _ _
        clear hb2 ho hg2
        go_wp2
        refine bodyPost_ret (v := .tuple #[.agg #[.slice xa xn xc, .int .i64 (n : Int)], .int .i64 0]) (by simp [results, Try.results22, go_sem, z0, z1]) rfl ?_
        exact ⟨_, rfl, ⟨_, rfl, YO.out⟩, YG.out⟩
      · obtain ⟨D, hD⟩ : ∃ D : Int, (t.data.length : Int) - t.synced = D := ⟨_, rfl⟩
        have hn : (n : Int) = t.synced + D := by split at HN <;> omega
        rw [hD] at hc
        rw [hn] at q1
        have HNN : Hid ((n : Int) = t.synced + D) := hn
        have hmin : min keep D = D := by omega
        clear hn HN
        go_enter Try.func22, Try.ntmps22
        go_upto_region 1 with fail
        rw [← HW.out]
        go_wp2_with fail
        refine TM.out.mono ?_
        rintro e w1 ⟨rfl, hg1⟩
        have d0 := hg1.cell c0 (by simp)
        have d1 := hg1.cell c1 (by simp)
        have q1w := q1 w1
        clear c0 c1 q1
        go_wp2_with fail
        refine (SY.out _ hg1).mono ?_
        rintro e w2 ⟨x, rfl, ho, hg2⟩
        have hb2 : w2.heap[w.heap.size + 1]? = some (.cells #[.slice none 0 0, .int .i64 0] 39) := pair_old (grown_trans hg1 hg2) B0.out
        obtain ⟨xa, xn, xc, rfl⟩ : ∃ a n c, x = .slice a n c := by obtain ⟨a, c, e⟩ := ho.shape; exact ⟨a, _, c, e⟩
        obtain ⟨y0, y1, y2, y3⟩ := two_cellsS hb2
        obtain ⟨z0, z1, _, _⟩ := two_cellsS (two_setS hb2 (.slice xa xn xc) (.int .i64 (n : Int)))
        have YO : Hid (SliceIs ((w2.setCell ⟨w.heap.size + 1, 0, none⟩ (.slice xa xn xc)).setCell ⟨w.heap.size + 1, 1, none⟩ (.int .i64 (n : Int))) (.slice xa xn xc) P) := (ho.setTwo hb2 tapS5 _ _).slice
        have YG : Hid (w.grownBy ((w2.setCell ⟨w.heap.size + 1, 0, none⟩ (.slice xa xn xc)).setCell ⟨w.heap.size + 1, 1, none⟩ (.int .i64 (n : Int))) none) := grown_setNew (grown_setNew (grown_trans hg0 (grown_trans hg1 hg2)) _ (by omega) _ _) _ (by omega) _ _
        clear hb2 ho hg2
        go_wp2
        refine bodyPost_ret (v := .tuple #[.agg #[.slice xa xn xc, .int .i64 (n : Int)], .int .i64 0]) (by simp [results, Try.results22, go_sem, z0, z1]) rfl ?_
        exact ⟨_, rfl, ⟨_, rfl, YO.out⟩, YG.out⟩
  · rw [if_neg hm] at TM
    have E1 : crashE t keep = 6 := by rw [crashE, if_neg hm]
    have E2 : crashT t keep = noTap := by rw [crashT, E1, if_neg (by decide)]
    rw [E1, E2]
    clear hm E1 E2
    go_enter Try.func22, Try.ntmps22
    go_upto_region 1 with fail
    rw [← HW.out]
    go_wp2_with fail
    refine TM.out.mono ?_
    rintro e w1 ⟨rfl, hg1⟩
    have hb2 : w1.heap[w.heap.size + 1]? = some (.cells #[.slice none 0 0, .int .i64 0] 39) := pair_old hg1 B0.out
    obtain ⟨y0, y1, y2, y3⟩ := two_cellsS hb2
    obtain ⟨z0, z1, _, _⟩ := two_cellsS (two_setS hb2 (.slice none 0 0) (.int .i64 0))
    go_wp2
    refine bodyPost_ret (v := .tuple #[.agg #[.slice none 0 0, .int .i64 0], .int .i64 6]) (by simp [results, Try.results22, go_sem, z0, z1]) rfl ?_
    exact ⟨_, rfl, tapeIs_no _, grown_setNew (grown_setNew (grown_trans hg0 hg1) _ (by omega) _ _) _ (by omega) _ _⟩
end Go.Proofs.Ytkheombfjgjedaa
