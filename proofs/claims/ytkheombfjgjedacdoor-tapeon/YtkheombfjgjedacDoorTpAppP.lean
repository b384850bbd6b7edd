/-
  tape.Append, as it landed, keeps P6.5.
-/
import Derived.Test.YtkheombfjgjedacDoorPart4
import Derived.Test.YtkheombfjgjedacDoorPart14
import Derived.Test.YtkheombfjgjedacDoorPart15
import Derived.Test.YtkheombfjgjedacDoorPart16
namespace Go.Proofs.YtkheombfjgjedacDoor
open Go.RowKit
theorem tapA5 : (28 : Nat) ≠ 5 := by decide
theorem two_setA {w : World} {b : Nat} {x y : Value} {t : TypeId} (h : w.heap[b]? = some (.cells #[x, y] t)) (u v : Value) : ((w.setCell ⟨b, 0, none⟩ u).setCell ⟨b, 1, none⟩ v).heap[b]? = some (.cells #[u, v] t) := set_self (set_self h)
theorem Own.setTwoA {base : Nat} {w : World} {v : Value} {bs : List UInt8} (h : Own base w v bs) {b : Nat} {x y : Value} {t : TypeId} (hb : w.heap[b]? = some (.cells #[x, y] t)) (ht : t ≠ 5) (p q : Value) : Own base ((w.setCell ⟨b, 0, none⟩ p).setCell ⟨b, 1, none⟩ q) v bs :=
  (h.setBlk hb ht 0 p).setBlk (set_self hb) ht 1 q
set_option maxRecDepth 100000 in
set_option maxHeartbeats 2000000 in
theorem tpapp_ok : TpAppOK := by
  intro w v u t c hv hu hl hlc ht
  obtain ⟨a, cap, rfl⟩ := hv.agg
  obtain ⟨ca, cc, rfl⟩ := hu.agg
  obtain ⟨U0, HU0, hgU, BU⟩ := alloc_namedF w (.cells #[.slice a t.data.length cap, .int .i64 t.synced] 28)
  obtain ⟨V0, HV0, hgV, BV⟩ := alloc_namedF U0 (.cells #[.int .i64 c.turn, .slice ca c.writes.length cc] 37)
  obtain ⟨W0, HW0, hgW, BW⟩ := alloc_namedF V0 (.cells #[.slice none 0 0, .int .i64 0] 28)
  have HW : Hid (W0 = ((w.alloc (.cells #[.slice a t.data.length cap, .int .i64 t.synced] 28)).alloc (.cells #[.int .i64 c.turn, .slice ca c.writes.length cc] 37)).alloc (.cells #[.slice none 0 0, .int .i64 0] 28)) := by show _ = _; rw [HW0.out, HV0.out, HU0.out]
  have hszU : U0.heap.size = w.heap.size + 1 := by rw [HU0.out]; simp
  have hszV : V0.heap.size = w.heap.size + 2 := by rw [HV0.out]; simp [hszU]
  rw [hszU] at BV
  rw [hszV] at BW
  clear hszU hszV
  have hg0 := grown_trans hgU (grown_trans hgV hgW)
  have BT : Hid (W0.heap[w.heap.size]? = some (.cells #[.slice a t.data.length cap, .int .i64 t.synced] 28)) := pair_old (grown_trans hgV hgW) BU.out
  have BC : Hid (W0.heap[w.heap.size + 1]? = some (.cells #[.int .i64 c.turn, .slice ca c.writes.length cc] 37)) := pair_old hgW BV.out
  obtain ⟨c0, c1, _, _⟩ := two_cellsF BT.out
  obtain ⟨k0, k1, _, _⟩ := two_cellsF BC.out
  have TM : Hid (Calls Tryd.prog 22 #[.agg #[.slice a t.data.length cap, .int .i64 t.synced]] W0 fun e w' => e = .returned (.int .i64 (if mayT t = true then 0 else 6)) ∧ W0.grownBy w' none) := checkTape_any W0 _ t (hv.grown hg0)
  have EN : Hid (∀ w', W0.grownBy w' none → Calls Tryd.prog 19 #[.agg #[.int .i64 c.turn, .slice ca c.writes.length cc]] w' fun e w'' => ∃ x, e = .returned (.tuple #[x, .int .i64 (commitE c)]) ∧ SliceIs w'' x (encF c) ∧ w'.grownBy w'' none) := fun w' hg => tpenc_ok w' _ c ((hu.grown hg0).grown hg) hlc
  have HD : Hid (SliceIs W0 (.slice a t.data.length cap) t.data) := hv.data.1.grown hg0
  have HT : Hid (Tabs W0) := ht.grownNone hg0
  clear hv hu hl hlc ht
  by_cases hm : mayT t = true
  · rw [if_pos hm] at TM
    obtain ⟨m1, m2, m3⟩ := (mayT_iff t).1 hm
    by_cases hz : commitE c = 0
    · have hsz := commit_size hz
      have hE : encF c = commitB c := by rw [encF, if_pos hz]
      have hF : frameB fourF c = wholeF (commitB c) := rfl
      have hwl := wholeF_len (commitB c)
      rw [hz, hE] at EN
      have FR : Hid (∀ w' x, SliceIs w' x (commitB c) → Tabs w' → Calls Tryd.prog 24 #[x] w' fun e w'' => ∃ y, e = .returned (.tuple #[y, .int .i64 0]) ∧ Own w'.heap.size w'' y (wholeF (commitB c)) ∧ w'.grownBy w'' none) := fun w' x h1 h2 => by
        have := framed_any w' x (commitB c) h1 (by omega) h2
        rw [if_pos (by omega), if_pos (by omega)] at this
        exact this
      by_cases hfull : 200000 < t.data.length + (frameB fourF c).length
      · have E1 : appE fourF t c = 11 := by rw [appE, if_pos hm, if_pos hz, if_pos hfull]
        have E2 : appT fourF t c = noTap := by rw [appT, E1, if_neg (by decide)]
        rw [E1, E2]
        rw [hF] at hfull
        generalize commitB c = CB at *
        generalize wholeF CB = WB at *
        have hwl6 : WB.length ≤ 1000 := by omega
        clear hm E1 E2 hE hF hz hwl hsz
        have i1 : (t.data.length : Int) + (WB.length : Int) > 200000 := by omega
        clear hfull
        go_enter Tryd.func12, Tryd.ntmps12
        go_upto_region 1 with fail
        rw [← HW.out]
        go_wp2_with fail
        refine TM.out.mono ?_
        rintro e w1 ⟨rfl, hg1⟩
        have d0 := hg1.cell c0 (by simp)
        have d1 := hg1.cell c1 (by simp)
        have j0 := hg1.cell k0 (by simp)
        have j1 := hg1.cell k1 (by simp)
        clear c0 c1 k0 k1
        go_wp2_with fail
        refine (EN.out _ hg1).mono ?_
        rintro e w2 ⟨x2, rfl, h2, hg2⟩
        obtain ⟨xa, xn, xc, rfl⟩ : ∃ a n c, x2 = .slice a n c := by obtain ⟨a, c, e⟩ := h2.shape; exact ⟨a, _, c, e⟩
        have hg02 := grown_trans hg1 hg2
        have ht2 := HT.out.grownNone hg02
        have H2 : Hid (SliceIs w2 (.slice xa xn xc) CB) := h2
        have e0 := hg2.cell d0 (by simp)
        have e1 := hg2.cell d1 (by simp)
        clear d0 d1 j0 j1 h2
        go_wp2_with fail
        refine (FR.out _ _ H2.out ht2).mono ?_
        rintro e w3 ⟨x3, rfl, h3, hg3⟩
        obtain ⟨ya, yc, rfl⟩ := h3.shape
        have hg03 := grown_trans hg02 hg3
        have f0 := hg3.cell e0 (by simp)
        have f1 := hg3.cell e1 (by simp)
        clear e0 e1
        have hb2 : w3.heap[w.heap.size + 2]? = some (.cells #[.slice none 0 0, .int .i64 0] 28) := pair_old hg03 BW.out
        obtain ⟨y0, y1, y2, y3⟩ := two_cellsF hb2
        obtain ⟨z0, z1, _, _⟩ := two_cellsF (two_setA hb2 (.slice none 0 0) (.int .i64 0))
        go_wp2
        refine bodyPost_ret (v := .tuple #[.agg #[.slice none 0 0, .int .i64 0], .int .i64 11]) (by simp [results, Tryd.results12, go_sem, z0, z1]) rfl ?_
        exact ⟨_, rfl, tapeIs_no _, grown_setNew (grown_setNew (grown_trans hg0 hg03) _ (by omega) _ _) _ (by omega) _ _⟩
      · have E1 : appE fourF t c = 0 := by rw [appE, if_pos hm, if_pos hz, if_neg hfull]
        have E2 : appT fourF t c = ⟨t.data ++ frameB fourF c, t.synced⟩ := by rw [appT, if_pos E1]
        rw [E1, E2, hF]
        rw [hF] at hfull
        generalize commitB c = CB at *
        generalize wholeF CB = WB at *
        have hwl6 : WB.length ≤ 1000 := by omega
        clear hm E1 E2 hE hF hz hwl hsz
        have i1 : ¬ (t.data.length : Int) + (WB.length : Int) > 200000 := by omega
        have hll : t.data.length + WB.length ≤ 1000000 := by omega
        clear hfull
        go_enter Tryd.func12, Tryd.ntmps12
        go_upto_region 1 with fail
        rw [← HW.out]
        go_wp2_with fail
        refine TM.out.mono ?_
        rintro e w1 ⟨rfl, hg1⟩
        have d0 := hg1.cell c0 (by simp)
        have d1 := hg1.cell c1 (by simp)
        have j0 := hg1.cell k0 (by simp)
        have j1 := hg1.cell k1 (by simp)
        clear c0 c1 k0 k1
        go_wp2_with fail
        refine (EN.out _ hg1).mono ?_
        rintro e w2 ⟨x2, rfl, h2, hg2⟩
        obtain ⟨xa, xn, xc, rfl⟩ : ∃ a n c, x2 = .slice a n c := by obtain ⟨a, c, e⟩ := h2.shape; exact ⟨a, _, c, e⟩
        have hg02 := grown_trans hg1 hg2
        have ht2 := HT.out.grownNone hg02
        have H2 : Hid (SliceIs w2 (.slice xa xn xc) CB) := h2
        have e0 := hg2.cell d0 (by simp)
        have e1 := hg2.cell d1 (by simp)
        clear d0 d1 j0 j1 h2
        go_wp2_with fail
        refine (FR.out _ _ H2.out ht2).mono ?_
        rintro e w3 ⟨x3, rfl, h3, hg3⟩
        obtain ⟨ya, yc, rfl⟩ := h3.shape
        have hg03 := grown_trans hg02 hg3
        have f0 := hg3.cell e0 (by simp)
        have f1 := hg3.cell e1 (by simp)
        clear e0 e1
        have H3 : Hid (SliceIs w3 (.slice ya WB.length yc) WB) := h3.slice
        have hga : w3.grownBy (w3.alloc (.cells #[.slice a t.data.length cap, .slice ya WB.length yc] 26)).drew none := grown_drew (grown_alloc (grown_refl _ _) _)
        obtain ⟨q0, q1, _, _⟩ := two_cellsF (w := (w3.alloc (.cells #[.slice a t.data.length cap, .slice ya WB.length yc] 26)).drew) (heap_alloc_new w3 (.cells #[.slice a t.data.length cap, .slice ya WB.length yc] 26))
        have CC : Hid (Calls Tryd.prog 25 #[.slice (some ⟨w3.heap.size, 0, none⟩) 2 2] (w3.alloc (.cells #[.slice a t.data.length cap, .slice ya WB.length yc] 26)).drew fun e w' => ∃ v', e = .returned v' ∧ Own (w3.alloc (.cells #[.slice a t.data.length cap, .slice ya WB.length yc] 26)).drew.heap.size w' v' (t.data ++ WB) ∧ (w3.alloc (.cells #[.slice a t.data.length cap, .slice ya WB.length yc] 26)).drew.grownBy w' none) := concat_any _ w3.heap.size _ _ _ _ q0 q1 ((HD.out.grown hg03).grown hga) (H3.out.grown hga) hll
        have f0' : w3.drew.cell? ⟨w.heap.size, 0, none⟩ = some (.slice a t.data.length cap) := f0
        have f1' : w3.drew.cell? ⟨w.heap.size, 1, none⟩ = some (.int .i64 t.synced) := f1
        have g0 := hga.cell f0 (by simp)
        have g1 := hga.cell f1 (by simp)
        have BW3 : Hid (w3.heap[w.heap.size + 2]? = some (.cells #[.slice none 0 0, .int .i64 0] 28)) := pair_old hg03 BW.out
        clear h3 q0 q1
        go_upto_region 12 with fail
        go_region_with (go_at_call 25; refine CC.out.mono ?_; rintro e w5 ⟨v5, rfl, ho5, hg5⟩; obtain ⟨va, vn, vc, rfl⟩ := Own.anyC ho5; have hg35 := grown_trans hga hg5; have r0 := hg5.cell g0 (by simp); have r1 := hg5.cell g1 (by simp); have hb5 := pair_old hg35 BW3.out; obtain ⟨y0, y1, y2, y3⟩ := two_cellsF hb5; obtain ⟨z0, z1, _, _⟩ := two_cellsF (two_setA hb5 (.slice va vn vc) (.int .i64 t.synced)); have YO : Hid (SliceIs ((w5.setCell ⟨w.heap.size + 2, 0, none⟩ (.slice va vn vc)).setCell ⟨w.heap.size + 2, 1, none⟩ (.int .i64 t.synced)) (.slice va vn vc) (t.data ++ WB)) := (ho5.setTwoA hb5 tapA5 _ _).slice; have YG : Hid (w.grownBy ((w5.setCell ⟨w.heap.size + 2, 0, none⟩ (.slice va vn vc)).setCell ⟨w.heap.size + 2, 1, none⟩ (.int .i64 t.synced)) none) := grown_setNew (grown_setNew (grown_trans hg0 (grown_trans hg03 hg35)) _ (by omega) _ _) _ (by omega) _ _; clear ho5 hb5)
        all_goals
          go_wp2_with fail
          refine bodyPost_ret (v := .tuple #[.agg #[.slice va vn vc, .int .i64 t.synced], .int .i64 0]) (by simp [results, Tryd.results12, go_sem, z0, z1]) rfl ?_
          exact ⟨_, rfl, ⟨_, rfl, YO.out⟩, YG.out⟩
    · have E1 : appE fourF t c = commitE c := by rw [appE, if_pos hm, if_neg hz]
      have E2 : appT fourF t c = noTap := by rw [appT, E1, if_neg hz]
      have hE : encF c = [] := by rw [encF, if_neg hz]
      rw [E1, E2]
      rw [hE] at EN
      generalize commitE c = E at *
      have hz' : (E != 0) = true := by simpa using hz
      clear hm E1 E2 hE hz m1 m2 m3
      go_enter Tryd.func12, Tryd.ntmps12
      go_upto_region 1 with fail
      rw [← HW.out]
      go_wp2_with fail
      refine TM.out.mono ?_
      rintro e w1 ⟨rfl, hg1⟩
      have d0 := hg1.cell c0 (by simp)
      have d1 := hg1.cell c1 (by simp)
      have j0 := hg1.cell k0 (by simp)
      have j1 := hg1.cell k1 (by simp)
      clear c0 c1 k0 k1
      go_wp2_with fail
      refine (EN.out _ hg1).mono ?_
      rintro e w2 ⟨x2, rfl, h2, hg2⟩
      obtain ⟨xa, xc, rfl⟩ := h2.shape
      have hb2 : w2.heap[w.heap.size + 2]? = some (.cells #[.slice none 0 0, .int .i64 0] 28) := pair_old (grown_trans hg1 hg2) BW.out
      obtain ⟨y0, y1, y2, y3⟩ := two_cellsF hb2
      obtain ⟨z0, z1, _, _⟩ := two_cellsF (two_setA hb2 (.slice none 0 0) (.int .i64 0))
      go_wp2
      refine bodyPost_ret (v := .tuple #[.agg #[.slice none 0 0, .int .i64 0], .int .i64 E]) (by simp [results, Tryd.results12, go_sem, z0, z1]) rfl ?_
      exact ⟨_, rfl, tapeIs_no _, grown_setNew (grown_setNew (grown_trans hg0 (grown_trans hg1 hg2)) _ (by omega) _ _) _ (by omega) _ _⟩
  · rw [if_neg hm] at TM
    have E1 : appE fourF t c = 6 := by rw [appE, if_neg hm]
    have E2 : appT fourF t c = noTap := by rw [appT, E1, if_neg (by decide)]
    rw [E1, E2]
    clear hm E1 E2
    go_enter Tryd.func12, Tryd.ntmps12
    go_upto_region 1 with fail
    rw [← HW.out]
    go_wp2_with fail
    refine TM.out.mono ?_
    rintro e w1 ⟨rfl, hg1⟩
    have hb2 : w1.heap[w.heap.size + 2]? = some (.cells #[.slice none 0 0, .int .i64 0] 28) := pair_old hg1 BW.out
    obtain ⟨y0, y1, y2, y3⟩ := two_cellsF hb2
    obtain ⟨z0, z1, _, _⟩ := two_cellsF (two_setA hb2 (.slice none 0 0) (.int .i64 0))
    clear c0 c1 k0 k1
    go_wp2
    refine bodyPost_ret (v := .tuple #[.agg #[.slice none 0 0, .int .i64 0], .int .i64 6]) (by simp [results, Tryd.results12, go_sem, z0, z1]) rfl ?_
    exact ⟨_, rfl, tapeIs_no _, grown_setNew (grown_setNew (grown_trans hg0 hg1) _ (by omega) _ _) _ (by omega) _ _⟩
end Go.Proofs.YtkheombfjgjedacDoor
