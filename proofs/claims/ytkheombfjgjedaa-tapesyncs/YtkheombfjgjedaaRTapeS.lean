/-
  The document's answer: TapeSynced.
-/
import Derived.Test.YtkheombfjgjedaaRTapeM
import Derived.Deep.RegionWith
namespace Go.Proofs.Ytkheombfjgjedaa
open Go.RowKit
set_option maxRecDepth 100000 in
set_option maxHeartbeats 1000000 in
theorem tapeSynced_any (w : World) (v : Value) (t : Tap) (hv : TapeIs w v t) :
    Calls Try.prog 20 #[v] w fun e w' => ∃ x, e = .returned (.tuple #[x, .int .i64 (syncE t)]) ∧ TapeIs w' x (syncT t) ∧ w.grownBy w' none := by
  obtain ⟨a, cap, rfl⟩ := hv.agg
  obtain ⟨U0, HU0, hgU, BU⟩ := alloc_named4 w (.cells #[.slice a t.data.length cap, .int .i64 t.synced] 39)
  obtain ⟨W0, HW0, hgA, B0⟩ := alloc_named4 U0 (.cells #[.slice none 0 0, .int .i64 0] 39)
  have HW : Hid (W0 = (w.alloc (.cells #[.slice a t.data.length cap, .int .i64 t.synced] 39)).alloc (.cells #[.slice none 0 0, .int .i64 0] 39)) := by show _ = _; rw [HW0.out, HU0.out]
  have hsz : U0.heap.size = w.heap.size + 1 := by rw [HU0.out]; simp
  rw [hsz] at B0
  clear hsz
  have hg0 := grown_trans hgU hgA
  have B1 : Hid (W0.heap[w.heap.size]? = some (.cells #[.slice a t.data.length cap, .int .i64 t.synced] 39)) := by
    show _ = _
    rw [hgA.block _ (Array.getElem?_eq_some_iff.1 BU.out).1 (by simp)]; exact BU.out
  obtain ⟨c0, c1, _, _⟩ := pair_room (grown_refl W0 none) B1.out
  have TM : Hid (Calls Try.prog 36 #[.agg #[.slice a t.data.length cap, .int .i64 t.synced]] W0 fun e w' => e = .returned (.bool (mayT t)) ∧ W0.grownBy w' none) := tapeMay_any W0 _ t (hv.grown hg0)
  have HD : Hid (SliceIs W0 (.slice a t.data.length cap) t.data) := hv.data.1.grown hg0
  by_cases hm : mayT t = true
  · obtain ⟨m1, m2, m3⟩ := (mayT_iff t).1 hm
    rw [hm] at TM
    have E1 : Hid (syncE t = 0) := by show _ = _; rw [syncE, if_pos hm]
    have E2 : Hid (syncT t = ⟨t.data, (t.data.length : Int)⟩) := by show _ = _; rw [syncT, if_pos hm]
    have JN : Hid (∀ w', W0.grownBy w' none → Calls Try.prog 30 #[.slice a t.data.length cap, .slice none 0 0] w' fun e w'' => ∃ v', e = .returned v' ∧ SliceIs w'' v' t.data ∧ w'.grownBy w'' none) := fun w' hg => by
      have h := joined_gen w' _ _ _ _ (HD.out.grown hg) (sliceIs_nil w') (by simp; omega)
      rw [List.append_nil] at h
      refine h.mono ?_
      rintro e w'' ⟨v', rfl, h1, h2⟩
      exact ⟨v', rfl, h1.slice, h2⟩
    clear hv hm
    go_enter Try.func20, Try.ntmps20
    go_upto_region 1 with fail
    rw [← HW.out]
    go_wp2_with fail
    refine TM.out.mono ?_
    rintro e w1 ⟨rfl, hg1⟩
    obtain ⟨r0, r1, r2, r3⟩ := pair_room hg1 B0.out
    obtain ⟨d0, d1, _, _⟩ := pair_room hg1 B1.out
    have hgd := grown_drew (grown_refl w1 none)
    have hg1d := grown_trans hg1 hgd
    have J1 : Hid (Calls Try.prog 30 #[.slice a t.data.length cap, .slice none 0 0] w1.drew fun e w'' => ∃ v', e = .returned v' ∧ SliceIs w'' v' t.data ∧ w1.drew.grownBy w'' none) := JN.out _ hg1d
    clear r0 r1 r2 r3
    go_upto_region 3 with fail
    go_region_with (go_at_call 30; refine J1.out.mono ?_; rintro e w2 ⟨x2, rfl, h2, hg2⟩; have hg02 := grown_trans hg1d hg2; obtain ⟨e0, e1, _, _⟩ := pair_room hg02 B1.out; obtain ⟨s0, s1, s2, s3⟩ := pair_room hg02 B0.out; obtain ⟨xa, xc, rfl⟩ := h2.shape; obtain ⟨z0, z1⟩ := pair_set hg02 B0.out (.slice xa t.data.length xc) (.int .i64 (t.data.length : Int)); have hb2 := pair_set2 hg02 B0.out)
    all_goals
      go_wp2_with fail
      refine bodyPost_ret (v := .tuple #[.agg #[.slice xa t.data.length xc, .int .i64 (t.data.length : Int)], .int .i64 0]) (by simp [results, Try.results20, go_sem, z0, z1]) rfl ?_
      exact ⟨_, by rw [E1.out], by rw [E2.out]; exact ⟨_, rfl, h2.tapeS hb2 _ _⟩, grown_setNew (grown_setNew (grown_trans hg0 hg02) _ (by omega) _ _) _ (by omega) _ _⟩
  · have E1 : Hid (syncE t = 6) := by show _ = _; rw [syncE, if_neg hm]
    have E2 : Hid (syncT t = noTap) := by show _ = _; rw [syncT, if_neg hm]
    rw [show mayT t = false by simpa using hm] at TM
    clear hv hm
    go_enter Try.func20, Try.ntmps20
    go_upto_region 1 with fail
    rw [← HW.out]
    go_wp2_with fail
    refine TM.out.mono ?_
    rintro e w1 ⟨rfl, hg1⟩
    obtain ⟨r0, r1, r2, r3⟩ := pair_room hg1 B0.out
    obtain ⟨z0, z1⟩ := pair_set hg1 B0.out (.slice none 0 0) (.int .i64 0)
    go_wp2
    refine bodyPost_ret (v := .tuple #[.agg #[.slice none 0 0, .int .i64 0], .int .i64 6]) (by simp [results, Try.results20, go_sem, z0, z1]) rfl ?_
    exact ⟨_, by rw [E1.out], by rw [E2.out]; exact tapeIs_no _, grown_setNew (grown_setNew (grown_trans hg0 hg1) _ (by omega) _ _) _ (by omega) _ _⟩
end Go.Proofs.Ytkheombfjgjedaa
