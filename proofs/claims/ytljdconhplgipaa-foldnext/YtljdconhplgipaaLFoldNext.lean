/-
  The walk of canopykeep.FoldNext, over what the code must keep.
-/
import Derived.Test.YtljdconhplgipaaKCommits
import Derived.Test.YtljdconhplgipaaKSameF
import Derived.Test.YtljdconhplgipaaPicked
import Derived.Test.YtljdconhplgipaaPart4
import Derived.Test.YtljdconhplgipaaPart2
namespace Go.Proofs.Ytljdconhplgipaa
open Go.RowKit
theorem cmts_hist {ws : List Plc} {cs : List Cmt} {f : FL} {i : Nat} (h : CmtsOf ws i cs f) (hl : cs.length ≤ 300) : Goes [] 0 cs ∧ histE cs = 0 := by
  have h1 := (foldC_goes cs [] f 0 h.turn h.fold).1
  exact ⟨h1, (hist_iff cs).2 ⟨hl, h1⟩⟩
theorem goes_fits {cs : List Cmt} (h : Goes [] 0 cs) (hl : cs.length ≤ 300) : FitsCs cs := ⟨by omega, fun i hi => commit_fits (h.at i hi).1⟩
set_option maxRecDepth 100000 in
set_option maxHeartbeats 2000000 in
theorem foldNext_walk (hF : FApplyNewOK) (hFo : HsFoldOK) (hCh : HsCheckOK) (hFc : FCheckOK) (w : World) (v : Value) (l : List Plc) (n : Int) (hv : PlacesIs w v l) (hl : FitsQ l) (hn0 : -9223372036854775808 ≤ n) (hn1 : n ≤ 9223372036854775807) :
    Calls Try.prog 6 #[v, .int .i64 n] w fun e w' => e = .returned (.bool true) ∧ w.grownBy w' none := by
  obtain ⟨a, cap, rfl⟩ := hv.shape
  have KC : Hid (Calls Try.prog 16 #[.slice a l.length cap, .int .i64 16] w fun e w' => ∃ v', e = .returned v' ∧ ∃ cs, CommitsIs w' v' cs ∧ (∃ f, CmtsOf ((l.take 16).map writeF) ((l.take 16).map writeF).length cs f) ∧ w.grownBy w' none) := kcommits_any hF w _ l 16 hv hl (by omega)
  have hlen : ((l.take 16).map writeF).length ≤ 16 := by simp; omega
  have HFA : Hid FApplyOK := hF.ok
  have HFO : Hid HsFoldOK := hFo
  have HCH : Hid HsCheckOK := hCh
  have HFC : Hid FCheckOK := hFc
  generalize (l.take 16).map writeF = ws at *
  clear hv hl hF hFo hCh hFc
  go_enter Try.func6, Try.ntmps6
  go_wp2_with fail
  refine KC.out.mono ?_
  rintro e w1 ⟨v1, rfl, cs, h1, ⟨f, hco⟩, hg1⟩
  have hcl : cs.length ≤ 16 := by have := hco.few; omega
  obtain ⟨hgo, hhi⟩ := cmts_hist hco (by omega)
  have hfit := goes_fits hgo (by omega)
  obtain ⟨ca, cc, rfl⟩ := h1.shape
  have H1 : Hid (CommitsIs w1 (.slice ca cs.length cc) cs) := h1
  by_cases h0 : cs.length = 0
  · have F0 : Hid (∀ w', Calls Try.prog 10 #[.slice none 0 0, .int .i64 0] w' fun e w'' => ∃ x, e = .returned (.tuple #[x, .int .i64 0]) ∧ TensIs w'' x [] ∧ w'.grownBy w'' none) := fun w' => HFO.out w' _ [] 0 (commitsIs_nil w') ⟨by simp, fun i hi => by simp at hi⟩ (by omega) (by omega)
    have F1 : Hid (∀ w', Calls Try.prog 10 #[.slice none 0 0, .int .i64 1] w' fun e w'' => ∃ x, e = .returned (.tuple #[x, .int .i64 2]) ∧ TensIs w'' x [] ∧ w'.grownBy w'' none) := fun w' => HFO.out w' _ [] 1 (commitsIs_nil w') ⟨by simp, fun i hi => by simp at hi⟩ (by omega) (by omega)
    have i0 : ((cs.length : Int) == 0) = true := by simp; simpa using h0
    clear h0 h1 hco hgo hhi hfit
    go_wp2_with fail
    refine (F0.out _).mono ?_
    rintro e w2 ⟨x, rfl, hx, hg2⟩
    obtain ⟨xa, xc, rfl⟩ := hx.shape
    clear hx
    go_wp2_with fail
    refine (F1.out _).mono ?_
    rintro e w3 ⟨y, rfl, hy, hg3⟩
    clear hy
    go_wp2
    go_ret
    exact ⟨rfl, grown_trans hg1 (grown_trans hg2 hg3)⟩
  · have PK : Hid (∀ w', Calls Try.prog 17 #[.int .i64 n, .int .i64 (cs.length : Int)] w' fun e w'' => ∃ k : Nat, e = .returned (.int .i64 (k : Int)) ∧ (k : Int) < (cs.length : Int) ∧ w'' = w') := fun w' => picked_any n _ w' hn0 hn1 (by omega) (by omega)
    have FO : Hid (∀ w' (k : Nat), k ≤ cs.length → w1.grownBy w' none → Calls Try.prog 10 #[.slice ca cs.length cc, .int .i64 (k : Int)] w' fun e w'' => ∃ x, e = .returned (.tuple #[x, .int .i64 0]) ∧ TensIs w'' x (foldH [] (cs.take k)) ∧ w'.grownBy w'' none) := fun w' k hk h => by
      obtain ⟨e1, e2⟩ := fold_ok hhi k hk
      have := HFO.out w' _ cs (k : Int) (H1.out.grown h) hfit (by omega) (by omega)
      rw [e1, e2] at this
      exact this
    have HNX : Hid (∀ k, k < cs.length → appliedE (foldH [] (cs.take k)) (cs.getD k noCmt).writes = 0 ∧ foldH [] (cs.take (k + 1)) = appliedF (foldH [] (cs.take k)) (cs.getD k noCmt).writes ∧ FitsW (cs.getD k noCmt).writes) := fun k hk => ⟨(hgo.at k hk).2.2, foldH_next cs k hk, (hfit.each k hk).writes⟩
    have HFT : Hid (∀ k, Forest (foldH [] (cs.take k))) := fun k => foldH_forest _ _ forest_nil
    have CHK : Hid (∀ w', w1.grownBy w' none → Calls Try.prog 7 #[.slice ca cs.length cc] w' fun e w'' => e = .returned (.int .i64 0) ∧ w'.grownBy w'' none) := fun w' h => by
      have := HCH.out w' _ cs (H1.out.grown h) hfit
      rw [hhi] at this
      exact this
    have i0 : ((cs.length : Int) == 0) = false := by simp; simpa using h0
    clear h0 h1 hco hgo hhi hfit
    go_wp2_with fail
    refine (PK.out _).mono ?_
    rintro e w2 ⟨k, rfl, hk, rfl⟩
    have hk' : k < cs.length := by omega
    obtain ⟨n1, n2, n3⟩ := HNX.out k hk'
    have FA := HFT.out k
    have FB := HFT.out (k + 1)
    obtain ⟨b, o, rfl, hat⟩ := H1.out.at k hk'
    obtain ⟨vs, _, c2, s1⟩ := hat
    have FOk : Hid (∀ w', w2.grownBy w' none → Calls Try.prog 10 #[.slice (some ⟨b, o, none⟩) cs.length cc, .int .i64 (k : Int)] w' fun e w'' => ∃ x, e = .returned (.tuple #[x, .int .i64 0]) ∧ TensIs w'' x (foldH [] (cs.take k)) ∧ w'.grownBy w'' none) := fun w' h => FO.out w' k (by omega) h
    have FOn : Hid (∀ w', w2.grownBy w' none → Calls Try.prog 10 #[.slice (some ⟨b, o, none⟩) cs.length cc, .int .i64 ((k : Int) + 1)] w' fun e w'' => ∃ x, e = .returned (.tuple #[x, .int .i64 0]) ∧ TensIs w'' x (foldH [] (cs.take (k + 1))) ∧ w'.grownBy w'' none) := fun w' h => by
      have := FO.out w' (k + 1) (by omega) h
      rw [show ((k + 1 : Nat) : Int) = (k : Int) + 1 by omega] at this
      exact this
    have AP : Hid (∀ w' x, w2.grownBy w' none → TensIs w' x (foldH [] (cs.take k)) → Calls Try.prog 18 #[x, vs] w' fun e w'' => ∃ y, e = .returned (.tuple #[y, .int .i64 0]) ∧ TensIs w'' y (foldH [] (cs.take (k + 1))) ∧ w'.grownBy w'' none) := fun w' x h hx => by
      have := HFA.out w' x vs _ _ hx (s1.grown h) FA.fits n3
      rw [n1, ← n2] at this
      exact this
    have SF : Hid (∀ w' x y, TensIs w' x (foldH [] (cs.take (k + 1))) → TensIs w' y (foldH [] (cs.take (k + 1))) → Calls Try.prog 19 #[x, y] w' fun e w'' => e = .returned (.bool true) ∧ w'.grownBy w'' none) := fun w' x y hx hy => sameForest_same w' x y _ hx hy FB.fits
    have FC : Hid (∀ w' x, TensIs w' x (foldH [] (cs.take (k + 1))) → Calls Try.prog 20 #[x] w' fun e w'' => e = .returned (.int .i64 0) ∧ w'.grownBy w'' none) := fun w' x hx => by
      have := HFC.out w' x _ hx FB.fits
      rw [(forest_iff _).2 FB] at this
      exact this
    obtain ⟨sa, sc, rfl⟩ := s1.shape
    generalize foldH [] (cs.take k) = FK at *
    generalize foldH [] (cs.take (k + 1)) = FN at *
    generalize (cs.getD k noCmt).writes.length = wl at *
    clear FO HNX HFT n1 n2 n3 FA FB s1 H1
    go_wp2_with fail
    refine (FOk.out _ (grown_refl _ _)).mono ?_
    rintro e w3 ⟨x3, rfl, h3, hg3⟩
    obtain ⟨xa, xc, rfl⟩ := h3.shape
    have X3 : Hid (TensIs w3 (.slice xa FK.length xc) FK) := h3
    clear h3
    go_wp2_with fail
    refine (FOn.out _ hg3).mono ?_
    rintro e w4 ⟨x4, rfl, h4, hg4⟩
    obtain ⟨ya, yc, rfl⟩ := h4.shape
    have X4 : Hid (TensIs w4 (.slice ya FN.length yc) FN) := h4
    have hg24 := grown_trans hg3 hg4
    have d2 := hg24.cell c2 (by simp)
    clear h4 c2
    go_wp2_with fail
    refine (AP.out _ _ hg24 (X3.out.grown hg4)).mono ?_
    rintro e w5 ⟨x5, rfl, h5, hg5⟩
    obtain ⟨za, zc, rfl⟩ := h5.shape
    have X5 : Hid (TensIs w5 (.slice za FN.length zc) FN) := h5
    have hg25 := grown_trans hg24 hg5
    clear h5
    go_wp2_with fail
    refine (SF.out _ _ _ (X4.out.grown hg5) X5.out).mono ?_
    rintro e w6 ⟨rfl, hg6⟩
    have hg26 := grown_trans hg25 hg6
    go_wp2_with fail
    refine (CHK.out _ hg26).mono ?_
    rintro e w7 ⟨rfl, hg7⟩
    go_wp2_with fail
    refine (FC.out _ _ (X4.out.grown (grown_trans hg5 (grown_trans hg6 hg7)))).mono ?_
    rintro e w8 ⟨rfl, hg8⟩
    go_wp2
    go_ret
    exact ⟨rfl, grown_trans hg1 (grown_trans hg26 (grown_trans hg7 hg8))⟩
end Go.Proofs.Ytljdconhplgipaa
