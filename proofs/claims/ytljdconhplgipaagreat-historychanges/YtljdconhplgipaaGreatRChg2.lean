/-
  The document's answer: changeless.
-/
import Derived.Test.YtljdconhplgipaaGreatRChg1
import Derived.BigQuiet
import Derived.Deep.RegionWith
namespace Go.Proofs.YtljdconhplgipaaGreat
open Go.RowKit
set_option maxRecDepth 100000 in
set_option maxHeartbeats 2000000 in
theorem changeless_any (w : World) (v u p : Value) (f : FL) (n : List UInt8) (q : Pr) (hv : TensIs w v f) (hu : SliceIs w u n) (hp : PairIs w p q) (hf : f.length ≤ 8) (hl : (ofF f n).length ≤ 1000000) :
    Calls Tryz.prog 15 #[v, u, p] w fun e w' => e = .returned (.bool (decide (getF (ofF f n) q.1 = some q.2))) ∧ w.grownBy w' none := by
  obtain ⟨pk, pv, rfl, t1, t2⟩ := hp
  obtain ⟨W0, HW0, hg0, B0⟩ := alloc_named4 w (.cells #[pk, pv] 53)
  obtain ⟨b0, b1, _, _⟩ := pair_room (grown_refl W0 none) B0.out
  have PO : Hid (Calls Tryz.prog 35 #[v, u] W0 fun e w' => ∃ x, e = .returned x ∧ PairsIs W0 x (ofF f n) ∧ w' = W0) := pairsOf_any W0 v u f n (hv.grown hg0) (hu.grown hg0) hf
  obtain ⟨fa, fc, rfl⟩ := hv.shape
  obtain ⟨na, nc, rfl⟩ := hu.shape
  have T1 : Hid (SliceIs W0 pk q.1) := t1.grown hg0
  have T2 : Hid (SliceIs W0 pv q.2) := t2.grown hg0
  have HNO : Hid ((∀ j, j < (ofF f n).length → ((ofF f n).getD j ([], [])).1 ≠ q.1) → getF (ofF f n) q.1 = none) := get_noneH
  have HAT : Hid (∀ m, m < (ofF f n).length → (∀ j, j < m → ((ofF f n).getD j ([], [])).1 ≠ q.1) → ((ofF f n).getD m ([], [])).1 = q.1 → getF (ofF f n) q.1 = some ((ofF f n).getD m ([], [])).2) := fun m h1 h2 h3 => get_atH m h1 h2 h3
  obtain ⟨Z, hZ⟩ : ∃ Z, Z = decide (getF (ofF f n) q.1 = some q.2) := ⟨_, rfl⟩
  rw [← hZ]
  have HZ : Hid (Z = decide (getF (ofF f n) q.1 = some q.2)) := hZ
  generalize getF (ofF f n) q.1 = G at *
  generalize ofF f n = L at *
  obtain ⟨pka, pkc, rfl⟩ := t1.shape
  obtain ⟨pva, pvc, rfl⟩ := t2.shape
  clear hv hu t1 t2 hZ
  go_enter Tryz.func15, Tryz.ntmps15
  go_upto_region 1 with fail
  rw [← HW0.out]
  go_wp2_with fail
  refine PO.out.mono ?_
  rintro e w1 ⟨x, rfl, hx, rfl⟩
  obtain ⟨xa, xc, rfl⟩ := hx.shape
  have HX : Hid (PairsIs w1 (.slice xa L.length xc) L) := hx
  clear hx
  go_wp2_with fail
  go_loopw [8] (fun i wr => ∃ m : Nat, m ≤ L.length ∧ i = .int .i64 (m : Int) ∧ (∀ j, j < m → (L.getD j ([], [])).1 ≠ q.1) ∧ w1.grownBy wr none) (fun i _ => L.length - (intOf i).toNat)
  case atStart => exact ⟨0, by omega, rfl, fun j hj => by omega, grown_refl _ _⟩
  case round =>
    obtain ⟨m, hm, rfl, hne, hgr⟩ := hrel
    have HN : Hid (∀ j, j < m → (L.getD j ([], [])).1 ≠ q.1) := hne
    have d0 := hgr.cell b0 (by simp)
    have d1 := hgr.cell b1 (by simp)
    clear hne
    by_cases hlt : m < L.length
    · have i1 : (m : Int) < (L.length : Int) := by omega
      obtain ⟨b, o, rfl, hat⟩ := HX.out.at m hlt
      obtain ⟨vk, vv, c1, c2, s1, s2⟩ := hat.grown hgr
      have SB : Hid (∀ W, wr.grownBy W none → Calls Tryz.prog 36 #[vk, .slice pka q.1.length pkc] W fun e w' => e = .returned (.bool (decide ((L.getD m ([], [])).1 = q.1))) ∧ w' = W) := fun W h => rsame_any _ _ _ _ _ (s1.grown h) ((T1.out.grown hgr).grown h)
      have SV : Hid (∀ W, wr.grownBy W none → Calls Tryz.prog 36 #[vv, .slice pva q.2.length pvc] W fun e w' => e = .returned (.bool (decide ((L.getD m ([], [])).2 = q.2))) ∧ w' = W) := fun W h => rsame_any _ _ _ _ _ (s2.grown h) ((T2.out.grown hgr).grown h)
      obtain ⟨qa, qc, rfl⟩ := s1.shape
      obtain ⟨ra, rc, rfl⟩ := s2.shape
      clear s1 s2
      by_cases he : (L.getD m ([], [])).1 = q.1
      · have HG : Hid (Z = decide ((L.getD m ([], [])).2 = q.2)) := by
          show _ = _
          rw [HZ.out, HAT.out m hlt HN.out he]
          simp
        rw [decide_eq_true he] at SB
        generalize decide ((L.getD m ([], [])).2 = q.2) = D2 at *
        generalize L.getD m ([], []) = P at *
        clear he
        go_wp2_with fail
        go_quiet (first | (go_at_call 36; exact Calls.quiet_of_same (SB.out _ (by first | exact grown_drewN (grown_refl _ _) _ | exact grown_refl _ _))))
        all_goals go_wp2_with fail
        go_region_with (go_at_call 36; refine (SV.out _ (by first | exact grown_drew (grown_drewN (grown_refl _ _) _) | exact grown_drewN (grown_refl _ _) _ | exact grown_drew (grown_refl _ _))).mono ?_; rintro e w9 ⟨rfl, rfl⟩)
        all_goals
          go_wp2_with fail
          go_ret
          exact ⟨ret_bool HG.out, grown_trans hg0 (grown_trans hgr (by first | exact grown_drew (grown_drewN (grown_refl _ _) _) | exact grown_drewN (grown_refl _ _) _ | exact grown_drew (grown_refl _ _)))⟩
      · have HNE : Hid (∀ j, j < m + 1 → (L.getD j ([], [])).1 ≠ q.1) := fun j hj => by
          by_cases hjm : j = m
          · subst hjm; exact he
          · exact HN.out j (by omega)
        rw [decide_eq_false he] at SB
        generalize L.getD m ([], []) = P at SB SV c1 c2 ⊢
        clear he
        go_wp2_with fail
        go_quiet (first | (go_at_call 36; exact Calls.quiet_of_same (SB.out _ (by first | exact grown_drewN (grown_refl _ _) _ | exact grown_refl _ _))))
        all_goals go_wp2_with fail
        go_roundw
        case rel => exact ⟨m + 1, by omega, by go_num, HNE.out, grown_trans hgr (by first | exact grown_drewN (grown_refl _ _) _ | exact grown_refl _ _)⟩
        case measure => simp [intOf]; omega
    · obtain rfl : m = L.length := by omega
      have HG : Hid (Z = false) := by show _ = _; rw [HZ.out, HNO.out HN.out]; rfl
      go_wp2
      go_ret
      exact ⟨ret_bool HG.out, grown_trans hg0 hgr⟩
end Go.Proofs.YtljdconhplgipaaGreat
