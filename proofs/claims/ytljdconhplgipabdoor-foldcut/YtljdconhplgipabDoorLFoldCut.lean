/-
  The walk of canopykeep.FoldCut, over what the code must keep.
-/
import Derived.Test.YtljdconhplgipabDoorKCommits
import Derived.Test.YtljdconhplgipabDoorKSameF
import Derived.Test.YtljdconhplgipabDoorPicked
import Derived.Test.YtljdconhplgipabDoorPart10
import Derived.Test.YtljdconhplgipabDoorPart3
import Derived.Test.YtljdconhplgipabDoorKSame
import Derived.Test.YtljdconhplgipabDoorPart5
namespace Go.Proofs.YtljdconhplgipabDoor
open Go.RowKit
theorem cmts_histC {ws : List Plc} {cs : List Cmt} {f : FL} {i : Nat} (h : CmtsOf ws i cs f) (hl : cs.length ≤ 300) : Goes [] 0 cs ∧ histE cs = 0 := by
  have h1 := (foldC_goes cs [] f 0 h.turn h.fold).1
  exact ⟨h1, (hist_iff cs).2 ⟨hl, h1⟩⟩
theorem goes_fitsC {cs : List Cmt} (h : Goes [] 0 cs) (hl : cs.length ≤ 300) : FitsCs cs := ⟨by omega, fun i hi => commit_fits (h.at i hi).1⟩
set_option maxRecDepth 100000 in
set_option maxHeartbeats 2000000 in
theorem foldCut_walk (hF : FApplyNewOK) (hFo : HsFoldOK) (hR : HsRootOK) (hFr : FRootOK) (w : World) (v : Value) (l : List Plc) (p q : Int) (hv : PlacesIs w v l) (hl : FitsQ l) (hp0 : -9223372036854775808 ≤ p) (hp1 : p ≤ 9223372036854775807) (hq0 : -9223372036854775808 ≤ q) (hq1 : q ≤ 9223372036854775807) (ht : Tabs w) :
    Calls Tryd.prog 3 #[v, .int .i64 p, .int .i64 q] w fun e w' => e = .returned (.bool true) ∧ w.grownBy w' none := by
  obtain ⟨a, cap, rfl⟩ := hv.shape
  have KC : Hid (Calls Tryd.prog 5 #[.slice a l.length cap, .int .i64 16] w fun e w' => ∃ v', e = .returned v' ∧ ∃ cs, CommitsIs w' v' cs ∧ (∃ f, CmtsOf ((l.take 16).map writeF) ((l.take 16).map writeF).length cs f) ∧ w.grownBy w' none) := kcommits_any hF w _ l 16 hv hl (by omega)
  have hlen : ((l.take 16).map writeF).length ≤ 16 := by simp; omega
  have HFO : Hid HsFoldOK := hFo
  have HRO : Hid HsRootOK := hR
  have HFR : Hid FRootOK := hFr
  have HT : Hid (Tabs w) := ht
  generalize (l.take 16).map writeF = ws at *
  clear hv hl hF hFo hR hFr ht
  go_enter Tryd.func3, Tryd.ntmps3
  go_wp2_with fail
  refine KC.out.mono ?_
  rintro e w1 ⟨v1, rfl, cs, h1, ⟨f, hco⟩, hg1⟩
  have hcl : cs.length ≤ 16 := by have := hco.few; omega
  obtain ⟨hgo, hhi⟩ := cmts_histC hco (by omega)
  have hfit := goes_fitsC hgo (by omega)
  obtain ⟨ca, cc, rfl⟩ := h1.shape
  have H1 : Hid (CommitsIs w1 (.slice ca cs.length cc) cs) := h1
  have hcap := h1.capC
  have PK1 : Hid (∀ w', Calls Tryd.prog 6 #[.int .i64 p, .int .i64 ((cs.length : Int) + 1)] w' fun e w'' => ∃ k : Nat, e = .returned (.int .i64 (k : Int)) ∧ (k : Int) < (cs.length : Int) + 1 ∧ w'' = w') := fun w' => picked_any p _ w' hp0 hp1 (by omega) (by omega)
  have HCUT : Hid (∀ k n, k ≤ cs.length → n ≤ k → foldE (cs.take k) (n : Int) = 0 ∧ foldT (cs.take k) (n : Int) = foldH [] (cs.take n) ∧ FitsCs (cs.take k)) := fun k n hk hn => by
    have hl2 : (cs.take k).length = k := by rw [List.length_take]; omega
    have hgk := hgo.take k
    have hhk : histE (cs.take k) = 0 := (hist_iff _).2 ⟨by omega, hgk⟩
    obtain ⟨e1, e2⟩ := fold_ok hhk n (by omega)
    refine ⟨e1, ?_, goes_fitsC hgk (by omega)⟩
    rw [e2, List.take_take, Nat.min_eq_left hn]
  have HFUL : Hid (∀ n, n ≤ cs.length → foldE cs (n : Int) = 0 ∧ foldT cs (n : Int) = foldH [] (cs.take n)) := fun n hn => fold_ok hhi n hn
  have HFIT : Hid (FitsCs cs) := hfit
  clear h1 hco hgo hhi hfit
  go_wp2_with fail
  refine (PK1.out _).mono ?_
  rintro e w2 ⟨k, rfl, hk, rfl⟩
  have PK2 : Hid (∀ w', Calls Tryd.prog 6 #[.int .i64 q, .int .i64 ((k : Int) + 1)] w' fun e w'' => ∃ n : Nat, e = .returned (.int .i64 (n : Int)) ∧ (n : Int) < (k : Int) + 1 ∧ w'' = w') := fun w' => picked_any q _ w' hq0 hq1 (by omega) (by omega)
  go_wp2_with fail
  refine (PK2.out _).mono ?_
  rintro e w3 ⟨n, rfl, hn, rfl⟩
  have hkc : k ≤ cs.length := by omega
  have hnk : n ≤ k := by omega
  obtain ⟨u1, u2⟩ := HFUL.out n (by omega)
  obtain ⟨u3, u4, u5⟩ := HCUT.out k n hkc hnk
  have hFo := foldH_forest (cs.take n) [] forest_nil
  obtain ⟨a1, sl, hsl⟩ := cslice_hm ca cc cs k hkc hcap
  have SL := sl
  have FO : Hid (∀ w', w3.grownBy w' none → Calls Tryd.prog 7 #[.slice ca cs.length cc, .int .i64 (n : Int)] w' fun e w'' => ∃ x, e = .returned (.tuple #[x, .int .i64 0]) ∧ TensIs w'' x (foldH [] (cs.take n)) ∧ w'.grownBy w'' none) := fun w' h => by
    have := HFO.out w' _ cs (n : Int) (H1.out.grown h) HFIT.out (by omega) (by omega)
    rw [u1, u2] at this
    exact this
  have FC : Hid (∀ w', w3.grownBy w' none → Calls Tryd.prog 7 #[.slice a1 k k, .int .i64 (n : Int)] w' fun e w'' => ∃ x, e = .returned (.tuple #[x, .int .i64 0]) ∧ TensIs w'' x (foldH [] (cs.take n)) ∧ w'.grownBy w'' none) := fun w' h => by
    have := HFO.out w' _ (cs.take k) (n : Int) (hsl w' (H1.out.grown h)) u5 (by omega) (by omega)
    rw [u3, u4] at this
    exact this
  have RO : Hid (∀ w', w3.grownBy w' none → Calls Tryd.prog 8 #[.slice ca cs.length cc, .int .i64 (n : Int)] w' fun e w'' => ∃ x, e = .returned (.tuple #[x, .int .i64 0]) ∧ SliceIs w'' x (rootL (rootsF (foldH [] (cs.take n)))) ∧ w'.grownBy w'' none) := fun w' h => by
    have := HRO.out w' _ cs (n : Int) (H1.out.grown h) HFIT.out (by omega) (by omega) (HT.out.grownNone (grown_trans hg1 h))
    rw [hrootF, u1, if_pos rfl, u2] at this
    exact this
  have FR : Hid (∀ w' x, w3.grownBy w' none → TensIs w' x (foldH [] (cs.take n)) → Calls Tryd.prog 9 #[x] w' fun e w'' => ∃ y, e = .returned (.tuple #[y, .int .i64 0]) ∧ SliceIs w'' y (rootL (rootsF (foldH [] (cs.take n)))) ∧ w'.grownBy w'' none) := fun w' x h hx => by
    have := HFR.out w' x _ hx hFo.fits (HT.out.grownNone (grown_trans hg1 h))
    rw [(forest_iff _).2 hFo, frootF, if_pos ((forest_iff _).2 hFo)] at this
    exact this
  have SF : Hid (∀ w' x y, TensIs w' x (foldH [] (cs.take n)) → TensIs w' y (foldH [] (cs.take n)) → Calls Tryd.prog 10 #[x, y] w' fun e w'' => e = .returned (.bool true) ∧ w'.grownBy w'' none) := fun w' x y hx hy => sameForest_same w' x y _ hx hy hFo.fits
  have hr32 : (rootL (rootsF (foldH [] (cs.take n)))).length = 32 := rootL_len _
  generalize rootL (rootsF (foldH [] (cs.take n))) = RT at *
  generalize foldH [] (cs.take n) = FN at *
  have SM : Hid (∀ w' x y, SliceIs w' x RT → SliceIs w' y RT → Calls Tryd.prog 11 #[x, y] w' fun e w'' => e = .returned (.bool true) ∧ w'' = w') := fun w' x y hx hy => by
    have := same_any w' x y RT RT hx hy
    rw [decide_eq_true rfl] at this
    exact this
  have HR32 : Hid (RT.length = 32) := hr32
  clear u1 u2 u3 u4 u5 hFo hsl HFUL HCUT H1 HFO HRO HFR hr32 sl
  go_wp2_with fail
  refine (FO.out _ (grown_refl _ _)).mono ?_
  rintro e w4 ⟨x4, rfl, h4, hg4⟩
  obtain ⟨xa, xc, rfl⟩ := h4.shape
  have X4 : Hid (TensIs w4 (.slice xa FN.length xc) FN) := h4
  clear h4
  have SLw := SL w4
  clear SL
  go_wp2_with fail
  refine (FC.out _ hg4).mono ?_
  rintro e w5 ⟨x5, rfl, h5, hg5⟩
  obtain ⟨ya, yc, rfl⟩ := h5.shape
  have X5 : Hid (TensIs w5 (.slice ya FN.length yc) FN) := h5
  have hg35 := grown_trans hg4 hg5
  clear h5 SLw
  go_wp2_with fail
  refine (RO.out _ hg35).mono ?_
  rintro e w6 ⟨x6, rfl, h6, hg6⟩
  obtain ⟨za, zc, rfl⟩ := h6.shape
  have X6 : Hid (SliceIs w6 (.slice za RT.length zc) RT) := h6
  have hg36 := grown_trans hg35 hg6
  clear h6
  go_wp2_with fail
  refine (FR.out _ _ hg36 (X4.out.grown (grown_trans hg5 hg6))).mono ?_
  rintro e w7 ⟨x7, rfl, h7, hg7⟩
  obtain ⟨ra, rc, rfl⟩ := h7.shape
  have X7 : Hid (SliceIs w7 (.slice ra RT.length rc) RT) := h7
  have hg37 := grown_trans hg36 hg7
  clear h7
  go_wp2_with fail
  refine (SF.out _ _ _ (X4.out.grown (grown_trans hg5 (grown_trans hg6 hg7))) (X5.out.grown (grown_trans hg6 hg7))).mono ?_
  rintro e w8 ⟨rfl, hg8⟩
  go_wp2_with fail
  refine (SM.out _ _ _ (X6.out.grown (grown_trans hg7 hg8)) (X7.out.grown hg8)).mono ?_
  rintro e w9 ⟨rfl, rfl⟩
  have i32 : ((RT.length : Int) == 32) = true := by rw [HR32.out]; rfl
  go_wp2
  go_ret
  exact ⟨rfl, grown_trans hg1 (grown_trans hg37 hg8)⟩
end Go.Proofs.YtljdconhplgipabDoor
