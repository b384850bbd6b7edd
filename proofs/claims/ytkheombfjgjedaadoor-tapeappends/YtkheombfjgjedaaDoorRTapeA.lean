/-
  The document's answer: TapeAppended.
-/
import Derived.Test.YtkheombfjgjedaaDoorPart15
import Derived.Test.YtkheombfjgjedaaDoorRTapeM
import Derived.Test.YtkheombfjgjedaaDoorPart4
import Derived.Test.YtkheombfjgjedaaDoorPart16
import Derived.Test.YtkheombfjgjedaaDoorTapeFour
import Derived.Deep.RegionWith
namespace Go.Proofs.YtkheombfjgjedaaDoor
open Go.RowKit
set_option maxRecDepth 100000 in
set_option maxHeartbeats 600000 in
theorem tapeAppended_any (w : World) (v u : Value) (t : Tap) (c : Cmt) (hv : TapeIs w v t) (hu : CommitIs w u c) (hl : FitsW c.writes) :
    Calls Tryd.prog 7 #[v, u] w fun e w' => ∃ x, e = .returned (.tuple #[x, .int .i64 (appE fourF t c)]) ∧ TapeIs w' x (appT fourF t c) ∧ w.grownBy w' none := by
  obtain ⟨a, cap, rfl⟩ := hv.agg
  obtain ⟨a2, cap2, rfl⟩ := hu.agg
  obtain ⟨U0, HU0, hgU, BU⟩ := alloc_named4 w (.cells #[.slice a t.data.length cap, .int .i64 t.synced] 24)
  obtain ⟨U1, HU1, hgU1, BU1⟩ := alloc_named4 U0 (.cells #[.int .i64 c.turn, .slice a2 c.writes.length cap2] 27)
  obtain ⟨W0, HW0, hgA, BA⟩ := alloc_named4 U1 (.cells #[.slice none 0 0, .int .i64 0] 24)
  have HW : Hid (W0 = ((w.alloc (.cells #[.slice a t.data.length cap, .int .i64 t.synced] 24)).alloc (.cells #[.int .i64 c.turn, .slice a2 c.writes.length cap2] 27)).alloc (.cells #[.slice none 0 0, .int .i64 0] 24)) := by show _ = _; rw [HW0.out, HU1.out, HU0.out]
  have s0 : U0.heap.size = w.heap.size + 1 := by rw [HU0.out]; simp
  have s1 : U1.heap.size = w.heap.size + 1 + 1 := by rw [HU1.out, World.size_alloc, s0]
  rw [s0] at BU1
  rw [s1] at BA
  clear s0 s1
  have hg0 := grown_trans hgU (grown_trans hgU1 hgA)
  have B0 : Hid (W0.heap[w.heap.size]? = some (.cells #[.slice a t.data.length cap, .int .i64 t.synced] 24)) := pair_old (grown_trans hgU1 hgA) BU.out
  have B1 : Hid (W0.heap[w.heap.size + 1]? = some (.cells #[.int .i64 c.turn, .slice a2 c.writes.length cap2] 27)) := pair_old hgA BU1.out
  have B2 : Hid (W0.heap[w.heap.size + 1 + 1]? = some (.cells #[.slice none 0 0, .int .i64 0] 24)) := BA
  have HD : Hid (SliceIs W0 (.slice a t.data.length cap) t.data) := hv.data.1.grown hg0
  have HC : Hid (CommitIs W0 (.agg #[.int .i64 c.turn, .slice a2 c.writes.length cap2]) c) := hu.grown hg0
  have TM : Hid (Calls Tryd.prog 15 #[.agg #[.slice a t.data.length cap, .int .i64 t.synced]] W0 fun e w' => e = .returned (.bool (mayT t)) ∧ W0.grownBy w' none) := tapeMay_any W0 _ t (hv.grown hg0)
  have CB : Hid (∀ w', W0.grownBy w' none → Calls Tryd.prog 16 #[.agg #[.int .i64 c.turn, .slice a2 c.writes.length cap2]] w' fun e w'' => ∃ x, e = .returned (.tuple #[x, .int .i64 (commitE c)]) ∧ SliceIs w'' x (encF c) ∧ w'.grownBy w'' none) := fun w' hg => commitBytes_any w' _ c (HC.out.grown hg) hl
  have JN : Hid (∀ w' x y (B C : List UInt8), SliceIs w' x B → SliceIs w' y C → B.length ≤ 1000000 → C.length ≤ 1000000 → Calls Tryd.prog 17 #[x, y] w' fun e w'' => ∃ v', e = .returned v' ∧ SliceIs w'' v' (B ++ C) ∧ w'.grownBy w'' none) := fun w' x y B C h1 h2 h3 h4 => (joined_gen w' x y B C h1 h2 (by omega)).mono (by rintro e w'' ⟨v', rfl, h, hg'⟩; exact ⟨v', rfl, h.slice, hg'⟩)
  obtain ⟨c0, c1, _, _⟩ := pair_room (grown_refl W0 none) B0.out
  clear hv hu hl hgU hgU1 hgA BU BU1 BA HU0 HU1 HW0
  by_cases hm : mayT t = true
  · obtain ⟨m1, m2, m3⟩ := (mayT_iff t).1 hm
    rw [hm] at TM
    by_cases hz : commitE c = 0
    · have k2 := (commit_size hz).2
      have hen : encF c = commitB c := by rw [encF, if_pos hz]
      rw [hen, hz] at CB
      have hfl := frame_len fourF_len c
      have HF : Hid (frameB fourF c = lenB (commitB c) ++ (sumF (lenB (commitB c))).take 4) := rfl
      have hE : appE fourF t c = if 200000 < t.data.length + (frameB fourF c).length then 11 else 0 := by rw [appE, if_pos hm, if_pos hz]
      have DG : Hid (∀ w' x, SliceIs w' x (lenB (commitB c)) → Calls Tryd.prog 18 #[x] w' fun e w'' => ∃ xa xc, e = .returned (.slice xa 32 xc) ∧ SliceIs w'' (.slice xa 32 xc) (sumF (lenB (commitB c))) ∧ w'.grownBy w'' none) := fun w' x h => (digested_any w' x _ h (by rw [lenB_len]; omega)).mono (by
        rintro e w'' ⟨v', rfl, h1, h2⟩
        obtain ⟨xa, xc, rfl⟩ := h1.shape
        rw [sumF_len] at h1 ⊢
        exact ⟨xa, xc, rfl, h1, h2⟩)
      have hsl := sumF_len (lenB (commitB c))
      have hll := lenB_len (commitB c)
      have HL2 : Hid (lenB (commitB c) = [UInt8.ofNat ((commitB c).length / 256), UInt8.ofNat ((commitB c).length % 256)] ++ commitB c) := rfl
      obtain ⟨FR, hFR⟩ : ∃ FR, FR = frameB fourF c := ⟨_, rfl⟩
      have HAT : Hid (appE fourF t c = 0 → appT fourF t c = ⟨t.data ++ FR, t.synced⟩) := fun h => by rw [appT, if_pos h, hFR]
      have HAN : Hid (appE fourF t c ≠ 0 → appT fourF t c = noTap) := fun h => by rw [appT, if_neg h]
      rw [← hFR] at HF hfl hE
      obtain ⟨S, hS⟩ : ∃ S, S = sumF (lenB (commitB c)) := ⟨_, rfl⟩
      rw [← hS] at HF DG hsl
      obtain ⟨LB, hLB⟩ : ∃ LB, LB = lenB (commitB c) := ⟨_, rfl⟩
      rw [← hLB] at HF DG hll HL2
      generalize commitB c = B at *
      have HLL : Hid (LB.length = B.length + 2) := hll
      have HFL : Hid (FR.length = B.length + 6) := hfl
      have HSL : Hid (S.length = 32) := hsl
      have hfr : FR.length ≤ 600 := by omega
      clear hll hfl hsl
      have HE : Hid (appE fourF t c = if 200000 < t.data.length + FR.length then 11 else 0) := hE
      clear hE hS hLB hFR hen hz hm
      go_enter Tryd.func7, Tryd.ntmps7
      go_upto_region 1 with fail
      rw [← HW.out]
      go_wp2_with fail
      refine TM.out.mono ?_
      rintro e w1 ⟨rfl, hg1⟩
      clear c0 c1
      obtain ⟨d0, d1, _, _⟩ := pair_room hg1 B1.out
      go_wp2_with fail
      refine (CB.out _ hg1).mono ?_
      rintro e w2 ⟨x2, rfl, h2, hg2⟩
      obtain ⟨ba, bc, rfl⟩ := h2.shape
      have HB2 : Hid (SliceIs w2 (.slice ba B.length bc) B) := h2
      have hg02 := grown_trans hg1 hg2
      clear h2 d0 d1
      obtain ⟨W2, HW2, hgA2, _⟩ := alloc_named4 w2 (.cells #[.int .u8 ((B.length : Int) / 256), .int .u8 ((B.length : Int) % 256)] 5)
      have HL3 : Hid (SliceIs W2 (.slice (some ⟨w2.heap.size, 0, none⟩) 2 2) [UInt8.ofNat (B.length / 256), UInt8.ofNat (B.length % 256)]) := by
        have h := two_slice w2 (UInt8.ofNat (B.length / 256)) (UInt8.ofNat (B.length % 256)) 5
        rw [show (((UInt8.ofNat (B.length / 256)).toNat : Nat) : Int) = (B.length : Int) / 256 by simp; omega, show (((UInt8.ofNat (B.length % 256)).toNat : Nat) : Int) = (B.length : Int) % 256 by simp] at h
        rw [HW2.out]; exact h
      go_wp2_with fail
      rw [← HW2.out]
      refine (JN.out _ _ _ _ _ HL3.out (HB2.out.grown hgA2) (by simp) (by omega)).mono ?_
      rintro e w3 ⟨x3, rfl, h3, hg3⟩
      rw [← HL2.out] at h3
      obtain ⟨fa, fc, rfl⟩ := h3.shape
      have HF3 : Hid (SliceIs w3 (.slice fa LB.length fc) LB) := h3
      have hg03 := grown_trans hg02 (grown_trans hgA2 hg3)
      clear h3
      go_wp2_with fail
      refine (DG.out _ _ HF3.out).mono ?_
      rintro e w4 ⟨da, dc, rfl, h4, hg4⟩
      have hcap := h4.cap.1
      rw [HSL.out] at hcap
      obtain ⟨a1, q1, r1, r2⟩ := bslice_h da dc S 4 (by rw [HSL.out]; omega) (by rw [HSL.out]; omega)
      rw [HSL.out] at r1 r2
      have HS4 : Hid (SliceIs w4 (.slice a1 4 q1) (S.take 4)) := r2 w4 h4
      have r1w : (Instr.slice 22 (.slice da 32 dc) none (some (.int .i64 4)) none).run Tryd.prog w4 = .ok (.slice a1 4 q1) w4 := r1 w4
      have hg04 := grown_trans hg03 hg4
      clear h4 r1 r2
      go_wp2_with fail
      refine (JN.out _ _ _ _ _ (HF3.out.grown hg4) HS4.out (by rw [HLL.out]; omega) (by simp; omega)).mono ?_
      rintro e w5 ⟨x5, rfl, h5, hg5⟩
      rw [← HF.out] at h5
      obtain ⟨ga, gc, rfl⟩ := h5.shape
      have HFR : Hid (SliceIs w5 (.slice ga FR.length gc) FR) := h5
      have hg05 := grown_trans hg04 hg5
      clear h5
      obtain ⟨c0, c1, _, _⟩ := pair_room hg05 B0.out
      obtain ⟨r0, r1', r2, r3⟩ := pair_room hg05 B2.out
      by_cases hfull : 200000 < t.data.length + FR.length
      · have E1 : Hid (appE fourF t c = 11) := by show _ = _; rw [HE.out, if_pos hfull]
        have E2 : Hid (appT fourF t c = noTap) := HAN.out (by rw [E1.out]; decide)
        have i1 : (t.data.length : Int) + (FR.length : Int) > 200000 := by omega
        obtain ⟨z0, z1⟩ := pair_set hg05 B2.out (.slice none 0 0) (.int .i64 0)
        clear hfull
        go_wp2
        refine bodyPost_ret (v := .tuple #[.agg #[.slice none 0 0, .int .i64 0], .int .i64 11]) (by simp [results, Tryd.results7, go_sem, z0, z1]) rfl ?_
        exact ⟨_, by rw [E1.out], by rw [E2.out]; exact tapeIs_no _, grown_setNew (grown_setNew (grown_trans hg0 hg05) _ (by omega) _ _) _ (by omega) _ _⟩
      · have E1 : Hid (appE fourF t c = 0) := by show _ = _; rw [HE.out, if_neg hfull]
        have E2 : Hid (appT fourF t c = ⟨t.data ++ FR, t.synced⟩) := HAT.out E1.out
        have i1 : ¬ (t.data.length : Int) + (FR.length : Int) > 200000 := by omega
        have hgd := grown_drew (grown_refl w5 none)
        have J5 : Hid (Calls Tryd.prog 17 #[.slice a t.data.length cap, .slice ga FR.length gc] w5.drew fun e w'' => ∃ v', e = .returned v' ∧ SliceIs w'' v' (t.data ++ FR) ∧ w5.drew.grownBy w'' none) := JN.out _ _ _ _ _ ((HD.out.grown hg05).grown hgd) (HFR.out.grown hgd) (by omega) (by rw [HFL.out]; omega)
        have hal : (t.data ++ FR).length ≤ 200000 := by rw [List.length_append]; omega
        generalize t.data ++ FR = AF at *
        clear hfull
        go_upto_region 11 with fail
        go_region_with (go_at_call 17; refine J5.out.mono ?_; rintro e w6 ⟨x6, rfl, h6, hg6⟩; have hg06 := grown_trans hg05 (grown_trans hgd hg6); obtain ⟨e0, e1, _, _⟩ := pair_room hg06 B0.out; obtain ⟨s0, s1, s2, s3⟩ := pair_room hg06 B2.out; obtain ⟨xa, xc, rfl⟩ := h6.shape; obtain ⟨z0, z1⟩ := pair_set hg06 B2.out (.slice xa AF.length xc) (.int .i64 t.synced); have hb6 : w6.heap[w.heap.size + 1 + 1]? = some (.cells #[.slice none 0 0, .int .i64 0] 24) := pair_old hg06 B2.out)
        all_goals
          go_wp2_with fail
          refine bodyPost_ret (v := .tuple #[.agg #[.slice xa AF.length xc, .int .i64 t.synced], .int .i64 0]) (by simp [results, Tryd.results7, go_sem, z0, z1]) rfl ?_
          exact ⟨_, by rw [E1.out], by rw [E2.out]; exact ⟨_, rfl, h6.setPair hb6 (fun q => by simp) (fun q => by simp) _ _⟩, grown_setNew (grown_setNew (grown_trans hg0 hg06) _ (by omega) _ _) _ (by omega) _ _⟩
    · have E1 : Hid (appE fourF t c = commitE c) := by show _ = _; rw [appE, if_pos hm, if_neg hz]
      have E2 : Hid (appT fourF t c = noTap) := by show _ = _; rw [appT, E1.out, if_neg hz]
      have hz' : (commitE c != 0) = true := by simpa using hz
      obtain ⟨z, hzz⟩ : ∃ z, z = commitE c := ⟨_, rfl⟩
      rw [← hzz] at E1 hz' CB
      generalize encF c = EF at *
      clear hz hm hzz
      go_enter Tryd.func7, Tryd.ntmps7
      go_upto_region 1 with fail
      rw [← HW.out]
      go_wp2_with fail
      refine TM.out.mono ?_
      rintro e w1 ⟨rfl, hg1⟩
      clear c0 c1
      obtain ⟨d0, d1, _, _⟩ := pair_room hg1 B1.out
      go_wp2_with fail
      refine (CB.out _ hg1).mono ?_
      rintro e w2 ⟨x2, rfl, h2, hg2⟩
      have hg02 := grown_trans hg1 hg2
      obtain ⟨r0, r1, r2, r3⟩ := pair_room hg02 B2.out
      obtain ⟨z0, z1⟩ := pair_set hg02 B2.out (.slice none 0 0) (.int .i64 0)
      go_wp2
      refine bodyPost_ret (v := .tuple #[.agg #[.slice none 0 0, .int .i64 0], .int .i64 z]) (by simp [results, Tryd.results7, go_sem, z0, z1]) rfl ?_
      exact ⟨_, by rw [E1.out], by rw [E2.out]; exact tapeIs_no _, grown_setNew (grown_setNew (grown_trans hg0 hg02) _ (by omega) _ _) _ (by omega) _ _⟩
  · have E1 : Hid (appE fourF t c = 6) := by show _ = _; rw [appE, if_neg hm]
    have E2 : Hid (appT fourF t c = noTap) := by show _ = _; rw [appT, E1.out, if_neg (by decide)]
    rw [show mayT t = false by simpa using hm] at TM
    clear hm
    go_enter Tryd.func7, Tryd.ntmps7
    go_upto_region 1 with fail
    rw [← HW.out]
    go_wp2_with fail
    refine TM.out.mono ?_
    rintro e w1 ⟨rfl, hg1⟩
    obtain ⟨r0, r1, r2, r3⟩ := pair_room hg1 B2.out
    obtain ⟨z0, z1⟩ := pair_set hg1 B2.out (.slice none 0 0) (.int .i64 0)
    go_wp2
    refine bodyPost_ret (v := .tuple #[.agg #[.slice none 0 0, .int .i64 0], .int .i64 6]) (by simp [results, Tryd.results7, go_sem, z0, z1]) rfl ?_
    exact ⟨_, by rw [E1.out], by rw [E2.out]; exact tapeIs_no _, grown_setNew (grown_setNew (grown_trans hg0 hg1) _ (by omega) _ _) _ (by omega) _ _⟩
end Go.Proofs.YtkheombfjgjedaaDoor
