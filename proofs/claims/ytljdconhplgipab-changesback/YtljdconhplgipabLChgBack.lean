/-
  The walk of canopykeep.ChangesBack, over what the code must keep.
-/
import Derived.Test.YtljdconhplgipabKCommits
import Derived.Test.YtljdconhplgipabKSame
import Derived.Test.YtljdconhplgipabPicked
import Derived.Test.YtljdconhplgipabPart8
import Derived.Test.YtljdconhplgipabPart2
import Derived.BigQuiet
import Derived.Deep.RegionWith
namespace Go.Proofs.Ytljdconhplgipab
open Go.RowKit
theorem cmts_histB {ws : List Plc} {cs : List Cmt} {f : FL} {i : Nat} (h : CmtsOf ws i cs f) (hl : cs.length ≤ 300) : histE cs = 0 ∧ FitsCs cs := by
  have h1 := (foldC_goes cs [] f 0 h.turn h.fold).1
  exact ⟨(hist_iff cs).2 ⟨hl, h1⟩, ⟨by omega, fun i hi => commit_fits (h1.at i hi).1⟩⟩
theorem chg_ok {cs : List Cmt} (h : histE cs = 0) (i j : Nat) (hi : i ≤ cs.length) (hj : j ≤ cs.length) : chgE cs (i : Int) (j : Int) = 0 ∧ chgW cs (i : Int) (j : Int) = changesL (foldT cs (i : Int)) (foldT cs (j : Int)) := by
  have e1 := (fold_ok h i hi).1
  have e2 := (fold_ok h j hj).1
  have e : chgE cs (i : Int) (j : Int) = 0 := by rw [chgE, if_pos e1, e2]
  exact ⟨e, by rw [chgW, if_pos e]⟩
theorem chg_out {cs : List Cmt} (h : histE cs = 0) : chgE cs 0 ((cs.length : Int) + 1) = 2 ∧ chgW cs 0 ((cs.length : Int) + 1) = [] := by
  have e1 : foldE cs 0 = 0 := (fold_ok h 0 (by omega)).1
  have e2 : foldE cs ((cs.length : Int) + 1) = 2 := by rw [foldE, if_pos h, if_neg (by omega)]
  have e : chgE cs 0 ((cs.length : Int) + 1) = 2 := by rw [chgE, if_pos e1, e2]
  exact ⟨e, by rw [chgW, e, if_neg (by decide)]⟩
set_option maxRecDepth 100000 in
set_option maxHeartbeats 4000000 in
theorem changesBack_walk (hF : FApplyNewOK) (hC : HsChgOK) (w : World) (v : Value) (l : List Plc) (x y : Int) (hv : PlacesIs w v l) (hl : FitsQ l) (hx0 : -9223372036854775808 ≤ x) (hx1 : x ≤ 9223372036854775807) (hy0 : -9223372036854775808 ≤ y) (hy1 : y ≤ 9223372036854775807) :
    Calls Try.prog 4 #[v, .int .i64 x, .int .i64 y] w fun e w' => e = .returned (.bool true) ∧ w.grownBy w' none := by
  obtain ⟨a, cap, rfl⟩ := hv.shape
  have KC : Hid (Calls Try.prog 6 #[.slice a l.length cap, .int .i64 16] w fun e w' => ∃ v', e = .returned v' ∧ ∃ cs, CommitsIs w' v' cs ∧ (∃ f, CmtsOf ((l.take 16).map writeF) ((l.take 16).map writeF).length cs f) ∧ w.grownBy w' none) := kcommits_any hF w _ l 16 hv hl (by omega)
  have hlen : ((l.take 16).map writeF).length ≤ 16 := by simp; omega
  have HC : Hid HsChgOK := hC
  generalize (l.take 16).map writeF = ws at *
  clear hv hl hF hC
  go_enter Try.func4, Try.ntmps4
  go_wp2_with fail
  refine KC.out.mono ?_
  rintro e w1 ⟨v1, rfl, cs, h1, ⟨f, hco⟩, hg1⟩
  have hcl : cs.length ≤ 16 := by have := hco.few; omega
  obtain ⟨hhi, hfit⟩ := cmts_histB hco (by omega)
  obtain ⟨ca, cc, rfl⟩ := h1.shape
  have H1 : Hid (CommitsIs w1 (.slice ca cs.length cc) cs) := h1
  have PX : Hid (∀ w', Calls Try.prog 7 #[.int .i64 x, .int .i64 ((cs.length : Int) + 1)] w' fun e w'' => ∃ k : Nat, e = .returned (.int .i64 (k : Int)) ∧ (k : Int) < (cs.length : Int) + 1 ∧ w'' = w') := fun w' => picked_any x _ w' hx0 hx1 (by omega) (by omega)
  have PY : Hid (∀ w', Calls Try.prog 7 #[.int .i64 y, .int .i64 ((cs.length : Int) + 1)] w' fun e w'' => ∃ k : Nat, e = .returned (.int .i64 (k : Int)) ∧ (k : Int) < (cs.length : Int) + 1 ∧ w'' = w') := fun w' => picked_any y _ w' hy0 hy1 (by omega) (by omega)
  have CH : Hid (∀ w' (i j : Nat), i ≤ cs.length → j ≤ cs.length → w1.grownBy w' none → Calls Try.prog 8 #[.slice ca cs.length cc, .int .i64 (i : Int), .int .i64 (j : Int)] w' fun e w'' => ∃ z, e = .returned (.tuple #[z, .int .i64 0]) ∧ WritesIs w'' z (changesL (foldT cs (i : Int)) (foldT cs (j : Int))) ∧ w'.grownBy w'' none) := fun w' i j hi hj h => by
    obtain ⟨e1, e2⟩ := chg_ok hhi i j hi hj
    have := HC.out w' _ cs (i : Int) (j : Int) (H1.out.grown h) hfit (by omega) (by omega) (by omega) (by omega)
    rw [e1, e2] at this
    exact this
  have CO : Hid (∀ w', w1.grownBy w' none → Calls Try.prog 8 #[.slice ca cs.length cc, .int .i64 0, .int .i64 ((cs.length : Int) + 1)] w' fun e w'' => ∃ z, e = .returned (.tuple #[z, .int .i64 2]) ∧ w'.grownBy w'' none) := fun w' h => by
    obtain ⟨e1, e2⟩ := chg_out hhi
    have := HC.out w' _ cs 0 ((cs.length : Int) + 1) (H1.out.grown h) hfit (by omega) (by omega) (by omega) (by omega)
    rw [e1, e2] at this
    exact this.mono (by rintro e w'' ⟨z, rfl, _, hg⟩; exact ⟨z, rfl, hg⟩)
  clear h1 hco hhi hfit
  go_wp2_with fail
  refine (PX.out _).mono ?_
  rintro e w2 ⟨i, rfl, hi, rfl⟩
  go_wp2_with fail
  refine (PY.out _).mono ?_
  rintro e w3 ⟨j, rfl, hj, rfl⟩
  have FI := foldT_forest cs (i : Int)
  have FJ := foldT_forest cs (j : Int)
  have C1 : Hid (∀ w', w3.grownBy w' none → Calls Try.prog 8 #[.slice ca cs.length cc, .int .i64 (i : Int), .int .i64 (j : Int)] w' fun e w'' => ∃ z, e = .returned (.tuple #[z, .int .i64 0]) ∧ WritesIs w'' z (changesL (foldT cs (i : Int)) (foldT cs (j : Int))) ∧ w'.grownBy w'' none) := fun w' h => CH.out w' i j (by omega) (by omega) h
  have C2 : Hid (∀ w', w3.grownBy w' none → Calls Try.prog 8 #[.slice ca cs.length cc, .int .i64 (j : Int), .int .i64 (i : Int)] w' fun e w'' => ∃ z, e = .returned (.tuple #[z, .int .i64 0]) ∧ WritesIs w'' z (changesL (foldT cs (j : Int)) (foldT cs (i : Int))) ∧ w'.grownBy w'' none) := fun w' h => CH.out w' j i (by omega) (by omega) h
  have BL := back_len FI FJ
  have hxl := changes_len FI FJ
  have BA : Hid (∀ n, n < (changesL (foldT cs (i : Int)) (foldT cs (j : Int))).length → ((changesL (foldT cs (i : Int)) (foldT cs (j : Int))).getD n noPlc).name = ((changesL (foldT cs (j : Int)) (foldT cs (i : Int))).getD n noPlc).name ∧ ((changesL (foldT cs (i : Int)) (foldT cs (j : Int))).getD n noPlc).key = ((changesL (foldT cs (j : Int)) (foldT cs (i : Int))).getD n noPlc).key ∧ ¬ (((changesL (foldT cs (i : Int)) (foldT cs (j : Int))).getD n noPlc).gone = true ∧ ((changesL (foldT cs (j : Int)) (foldT cs (i : Int))).getD n noPlc).gone = true)) := fun n hn => back_at FI FJ n hn
  generalize changesL (foldT cs (i : Int)) (foldT cs (j : Int)) = XL at *
  generalize changesL (foldT cs (j : Int)) (foldT cs (i : Int)) = YL at *
  clear FI FJ CH
  go_wp2_with fail
  refine (C1.out _ (grown_refl _ _)).mono ?_
  rintro e w4 ⟨z4, rfl, h4, hg4⟩
  obtain ⟨xa, xc, rfl⟩ := h4.shape
  have X4 : Hid (WritesIs w4 (.slice xa XL.length xc) XL) := h4
  clear h4
  go_wp2_with fail
  refine (C2.out _ hg4).mono ?_
  rintro e w5 ⟨z5, rfl, h5, hg5⟩
  obtain ⟨ya, yc, rfl⟩ := h5.shape
  have X5 : Hid (WritesIs w5 (.slice ya YL.length yc) YL) := h5
  have hg35 := grown_trans hg4 hg5
  rw [← BL] at X5 ⊢
  have HBL : Hid (XL.length = YL.length) := BL
  have hne : ((XL.length : Int) != (XL.length : Int)) = false := by simp
  clear h5 BL
  go_wp2_with fail
  go_loopw [14] (fun iv wr => ∃ m : Nat, m ≤ XL.length ∧ iv = .int .i64 (m : Int) ∧ w5.grownBy wr none) (fun i _ => XL.length - (intOf i).toNat)
  case atStart => exact ⟨0, by omega, rfl, grown_refl _ _⟩
  case round =>
    obtain ⟨m, hm, rfl, hgr⟩ := hrel
    by_cases hlt : m < XL.length
    · have i1 : (m : Int) < (XL.length : Int) := by omega
      obtain ⟨b, o, rfl, hat⟩ := (X4.out.grown (grown_trans hg5 hgr)).at m hlt
      obtain ⟨vn, vk, vv, c1, c2, c3, c4, s1, s2, _⟩ := hat
      obtain ⟨b', o', rfl, hat'⟩ := (X5.out.grown hgr).at m (by rw [← HBL.out]; exact hlt)
      obtain ⟨un, uk, uv, d1, d2, d3, d4, r1, r2, _⟩ := hat'
      obtain ⟨n1, n2, n3⟩ := BA.out m hlt
      rw [← n1] at r1
      rw [← n2] at r2
      have SN : Hid (∀ W, wr.grownBy W none → Calls Try.prog 11 #[vn, un] W fun e w' => e = .returned (.bool true) ∧ w' = W) := fun W h => by
        have := same_any W vn un _ _ (s1.grown h) (r1.grown h)
        simpa using this
      have SK : Hid (∀ W, wr.grownBy W none → Calls Try.prog 11 #[vk, uk] W fun e w' => e = .returned (.bool true) ∧ w' = W) := fun W h => by
        have := same_any W vk uk _ _ (s2.grown h) (r2.grown h)
        simpa using this
      obtain ⟨na, nc, rfl⟩ := s1.shape
      obtain ⟨ka, kc, rfl⟩ := s2.shape
      obtain ⟨ma, mc, rfl⟩ := r1.shape
      obtain ⟨la, lc, rfl⟩ := r2.shape
      generalize (XL.getD m noPlc).gone = g1 at *
      generalize (YL.getD m noPlc).gone = g2 at *
      have HG : Hid (¬ (g1 = true ∧ g2 = true)) := n3
      clear s1 s2 r1 r2 n1 n2 n3 c4 d4
      generalize (XL.getD m noPlc).name.length = ln at *
      generalize (XL.getD m noPlc).key.length = lk at *
      go_upto_region 11 with fail
      go_cut [101] (fun s101 wx => s101 = .bool false ∧ w5.grownBy wx none)
      case first =>
        cases g1 with
        | false =>
          go_quiet (first | (go_at_call_of 11 (Value.slice na ln nc); exact Calls.quiet_of_same (SN.out _ (by first | exact grown_drewN (grown_refl _ _) _ | exact grown_refl _ _))) | (go_at_call_of 11 (Value.slice ka lk kc); exact Calls.quiet_of_same (SK.out _ (by first | exact grown_drewN (grown_refl _ _) _ | exact grown_refl _ _))))
          all_goals (go_wp2_with fail; go_meet; case rel => exact ⟨rfl, grown_trans hgr (by first | exact grown_drewN (grown_refl _ _) _ | exact grown_refl _ _)⟩)
        | true =>
          have hg2f : g2 = false := by
            cases g2 with
            | false => rfl
            | true => exact absurd ⟨rfl, rfl⟩ HG.out
          subst hg2f
          go_quiet (first | (go_at_call_of 11 (Value.slice na ln nc); exact Calls.quiet_of_same (SN.out _ (by first | exact grown_drewN (grown_refl _ _) _ | exact grown_refl _ _))) | (go_at_call_of 11 (Value.slice ka lk kc); exact Calls.quiet_of_same (SK.out _ (by first | exact grown_drewN (grown_refl _ _) _ | exact grown_refl _ _))))
          all_goals (go_wp2_with fail; go_meet; case rel => exact ⟨rfl, grown_trans hgr (by first | exact grown_drewN (grown_refl _ _) _ | exact grown_refl _ _)⟩)
      case rest =>
        obtain ⟨rfl, hgc⟩ := hcut
        clear c1 c2 c3 d1 d2 d3
        go_wp2_with fail
        go_roundw
        case rel => exact ⟨m + 1, by omega, by go_num, hgc⟩
        case measure => simp [intOf]; omega
    · obtain rfl : m = XL.length := by omega
      have i1 : ¬ (XL.length : Int) < (XL.length : Int) := by omega
      have C3 : Hid (Calls Try.prog 8 #[.slice ca cs.length cc, .int .i64 0, .int .i64 ((cs.length : Int) + 1)] wr fun e w'' => ∃ z, e = .returned (.tuple #[z, .int .i64 2]) ∧ wr.grownBy w'' none) := CO.out wr (grown_trans hg35 hgr)
      go_wp2_with fail
      refine C3.out.mono ?_
      rintro e w6 ⟨z6, rfl, hg6⟩
      go_wp2
      go_ret
      exact ⟨rfl, grown_trans hg1 (grown_trans hg35 (grown_trans hgr hg6))⟩
end Go.Proofs.Ytljdconhplgipab
