/-
  The walk of the document's answer to P7.5: ChangesOf.
-/
import Derived.Test.YtljdconhplgipaaGreatPart22
import Derived.Test.YtljdconhplgipaaGreatRChg1
import Derived.Test.YtljdconhplgipaaGreatRChg2
import Derived.Test.YtljdconhplgipaaGreatRChg3
import Derived.Test.YtljdconhplgipaaGreatPart4
import Derived.Test.YtljdconhplgipaaGreatRJoined
import Derived.Deep.RegionHeld3
import Derived.Deep.RegionWith
import Derived.BigQuiet
import Derived.Handy
namespace Go.Proofs.YtljdconhplgipaaGreat
open Go.RowKit
theorem forest_fitsH {f : FL} (h : Forest f) : f.length ≤ 8 ∧ (∀ n, (ofF f n).length ≤ 1000000) ∧ ∀ m, m < f.length → (f.getD m ([], [])).2.length ≤ 60 ∧ (f.getD m ([], [])).1.length ≤ 1000000 ∧ ∀ k, k < (f.getD m ([], [])).2.length → ((f.getD m ([], [])).2.getD k ([], [])).1.length ≤ 1000000 ∧ ((f.getD m ([], [])).2.getD k ([], [])).2.length ≤ 1000000 := by
  refine ⟨h.room, fun n => ?_, fun m hm => ?_⟩
  · by_cases e : ofF f n = []
    · rw [e]; simp
    · have := (h.tens _ (of_in e)).2.2.room
      exact Nat.le_trans this (by omega)
  · have hm2 : f.getD m ([], []) ∈ f := by
      rw [show f.getD m ([], []) = f[m] by simp [hm]]; exact List.getElem_mem hm
    have ht := h.tens _ hm2
    refine ⟨ht.2.2.room, by have := ht.1.2; omega, fun k hk => ?_⟩
    generalize f.getD m ([], []) = T at *
    have hk2 : T.2.getD k ([], []) ∈ T.2 := by
      rw [show T.2.getD k ([], []) = T.2[k] by simp [hk]]; exact List.getElem_mem hk
    have := ht.2.2.pairs _ hk2
    omega
theorem partIs_nilH (w : World) : PartIs 0 w (.slice none 0 0) [] := ⟨sliceIs_nil _, .inl rfl⟩
set_option maxRecDepth 100000 in
set_option maxHeartbeats 8000000 in
theorem changesOf_any (w : World) (v : Value) (l : List Cmt) (i j : Int) (hv : CommitsIs w v l) (hl : FitsCs l) :
    Calls Tryz.prog 6 #[v, .int .i64 i, .int .i64 j] w fun e w' => ∃ x, e = .returned (.tuple #[x, .int .i64 (chgE l i j)]) ∧ WritesIs w' x (chgW l i j) ∧ w.grownBy w' none := by
  obtain ⟨a, cap, rfl⟩ := hv.shape
  have FO : Hid (∀ W t, w.grownBy W none → Calls Tryz.prog 14 #[.slice a l.length cap, .int .i64 t] W fun e w' => ∃ x, e = .returned (.tuple #[x, .int .i64 (foldE l t)]) ∧ TensIs w' x (foldT l t) ∧ W.grownBy w' none) := fun W t h => foldOf_any W _ l t (hv.grown h) hl
  have HA : Hid (Forest (foldT l i)) := foldT_forest l i
  have HB : Hid (Forest (foldT l j)) := foldT_forest l j
  obtain ⟨E, hE⟩ : ∃ E, E = chgE l i j := ⟨_, rfl⟩
  obtain ⟨Z, hZ⟩ : ∃ Z, Z = chgW l i j := ⟨_, rfl⟩
  have hW : Z = if E = 0 then changesL (foldT l i) (foldT l j) else [] := by rw [hZ, hE]; rfl
  have hE2 : E = if foldE l i = 0 then foldE l j else foldE l i := hE
  have HZ0 : Hid (E ≠ 0 → Z = []) := fun h => by rw [hW, if_neg h]
  have HZ1 : Hid (E = 0 → Z = changesL (foldT l i) (foldT l j)) := fun h => by rw [hW, if_pos h]
  rw [← hE, ← hZ]
  clear hE hW hv hl hZ
  have F1 := FO.out w i (grown_refl _ _)
  have F2 : Hid (∀ W, w.grownBy W none → Calls Tryz.prog 14 #[.slice a l.length cap, .int .i64 j] W fun e w' => ∃ x, e = .returned (.tuple #[x, .int .i64 (foldE l j)]) ∧ TensIs w' x (foldT l j) ∧ W.grownBy w' none) := fun W h => FO.out W j h
  clear FO
  generalize foldT l i = fa at *
  generalize foldT l j = fb at *
  obtain ⟨e1, he1⟩ : ∃ e1, e1 = foldE l i := ⟨_, rfl⟩
  obtain ⟨e2, he2⟩ : ∃ e2, e2 = foldE l j := ⟨_, rfl⟩
  rw [← he1] at F1 hE2
  rw [← he2] at F2 hE2
  clear he1 he2
  have HF1 : Hid (Calls Tryz.prog 14 #[.slice a l.length cap, .int .i64 i] w fun e w' => ∃ x, e = .returned (.tuple #[x, .int .i64 e1]) ∧ TensIs w' x fa ∧ w.grownBy w' none) := F1
  clear F1
  go_enter Tryz.func6, Tryz.ntmps6
  go_wp2_with fail
  refine HF1.out.mono ?_
  rintro e w1 ⟨va, rfl, hta, hg1⟩
  obtain ⟨aa, ac, rfl⟩ := hta.shape
  by_cases z1 : e1 = 0
  case neg =>
    rw [if_neg z1] at hE2
    subst hE2
    have z2 : (E != 0) = true := by simp [z1]
    go_wp2
    go_ret2
    exact ⟨_, rfl, by rw [HZ0.out z1]; exact writesIs_nil _, hg1⟩
  case pos =>
  subst z1
  rw [if_pos rfl] at hE2
  subst hE2
  have HTA : Hid (TensIs w1 (.slice aa fa.length ac) fa) := hta
  clear hta
  go_wp2_with fail
  refine (F2.out _ hg1).mono ?_
  rintro e w2 ⟨vb, rfl, htb, hg2⟩
  obtain ⟨ba, bc, rfl⟩ := htb.shape
  have hg12 := grown_trans hg1 hg2
  by_cases z1 : E = 0
  case neg =>
    have z2 : (E != 0) = true := by simp [z1]
    go_wp2
    go_ret2
    exact ⟨_, rfl, by rw [HZ0.out z1]; exact writesIs_nil _, hg12⟩
  case pos =>
  subst z1
  have HZ : Hid (Z = outX (gG fb) (outX (gP fa) [] fb fb.length) fa fa.length) := by show _ = _; rw [HZ1.out rfl, changes_out]
  clear HZ0 HZ1
  have HTA2 : Hid (TensIs w2 (.slice aa fa.length ac) fa) := HTA.out.grown hg2
  have HTB : Hid (TensIs w2 (.slice ba fb.length bc) fb) := htb
  clear htb HTA HF1 F2
  obtain ⟨la, oa, fita⟩ := forest_fitsH HA.out
  obtain ⟨lb, ob, fitb⟩ := forest_fitsH HB.out
  have HFA : Hid (∀ m, m < fa.length → (fa.getD m ([], [])).2.length ≤ 60 ∧ (fa.getD m ([], [])).1.length ≤ 1000000 ∧ ∀ k, k < (fa.getD m ([], [])).2.length → ((fa.getD m ([], [])).2.getD k ([], [])).1.length ≤ 1000000 ∧ ((fa.getD m ([], [])).2.getD k ([], [])).2.length ≤ 1000000) := fita
  have HFB : Hid (∀ m, m < fb.length → (fb.getD m ([], [])).2.length ≤ 60 ∧ (fb.getD m ([], [])).1.length ≤ 1000000 ∧ ∀ k, k < (fb.getD m ([], [])).2.length → ((fb.getD m ([], [])).2.getD k ([], [])).1.length ≤ 1000000 ∧ ((fb.getD m ([], [])).2.getD k ([], [])).2.length ≤ 1000000) := fitb
  have CL : Hid (∀ W vn n vp q, w2.grownBy W none → SliceIs W vn n → PairIs W vp q → Calls Tryz.prog 15 #[.slice aa fa.length ac, vn, vp] W fun e w' => e = .returned (.bool (decide (getF (ofF fa n) q.1 = some q.2))) ∧ W.grownBy w' none) := fun W vn n vp q h h1 h2 => changeless_any W _ vn vp fa n q (HTA2.out.grown h) h1 h2 la (oa n)
  have KI : Hid (∀ W vn n vk k, w2.grownBy W none → SliceIs W vn n → SliceIs W vk k → Calls Tryz.prog 18 #[.slice ba fb.length bc, vn, vk] W fun e w' => e = .returned (.bool (getF (ofF fb n) k).isSome) ∧ w' = W) := fun W vn n vk k h h1 h2 => keyIn_any W _ vn vk fb n k (HTB.out.grown h) h1 h2 lb (ob n)
  clear fita fitb oa ob
  go_wp2_with fail
  go_loopw [11, 12] (fun ov iv wr => ∃ m : Nat, m ≤ fb.length ∧ iv = .int .i64 (m : Int) ∧ WritesB 0 wr ov (outX (gP fa) [] fb m) ∧ (outX (gP fa) [] fb m).length ≤ 60 * m ∧ w2.grownBy wr none) (fun _ i _ => fb.length - (intOf i).toNat)
  case atStart => exact ⟨0, by omega, rfl, writesB_nil _ _, Nat.le_refl _, grown_refl _ _⟩
  case round =>
    obtain ⟨m, hm, rfl, hov, hlen, hgr⟩ := hrel
    by_cases hlt : m < fb.length
    · obtain ⟨b, o, rfl, hat⟩ := HTB.out.at m hlt
      obtain ⟨vn, vp, c1, c2, s1, s2⟩ := hat
      have HOS : Hid (outX (gP fa) [] fb (m + 1) = inX (gP fa) (fb.getD m ([], [])).1 (fb.getD m ([], [])).2 (outX (gP fa) [] fb m) (fb.getD m ([], [])).2.length) := outX_succ _ _ _ _ hlt
      obtain ⟨ht1, ht2, ht3⟩ := HFB.out m hlt
      generalize fb.getD m ([], []) = T at *
      generalize outX (gP fa) [] fb m = S at *
      obtain ⟨na, nc, rfl⟩ := s1.shape
      obtain ⟨pa, pc, rfl⟩ := s2.shape
      have S1 : Hid (SliceIs w2 (.slice na T.1.length nc) T.1) := s1
      have S2 : Hid (PairsIs w2 (.slice pa T.2.length pc) T.2) := s2
      have HT3 : Hid (∀ k, k < T.2.length → (T.2.getD k ([], [])).1.length ≤ 1000000 ∧ (T.2.getD k ([], [])).2.length ≤ 1000000) := ht3
      have i1 : (m : Int) < (fb.length : Int) := by omega
      clear s1 s2 ht3
      go_wp2_with fail
      go_loopw [11, 13] (fun ov kv wx => ∃ k : Nat, k ≤ T.2.length ∧ kv = .int .i64 (k : Int) ∧ WritesB 0 wx ov (inX (gP fa) T.1 T.2 S k) ∧ (inX (gP fa) T.1 T.2 S k).length ≤ 60 * m + k ∧ w2.grownBy wx none) (fun _ i _ => T.2.length - (intOf i).toNat)
      case atStart => exact ⟨0, by omega, rfl, hov, hlen, hgr⟩
      case round =>
        obtain ⟨k, hk, rfl, hox, hlx, hgx⟩ := hrel
        have d1 := hgx.cell c1 (by simp)
        have d2 := hgx.cell c2 (by simp)
        obtain ⟨xa, xc, rfl⟩ := hox.shape
        by_cases hlk : k < T.2.length
        · have i2 : (k : Int) < (T.2.length : Int) := by omega
          obtain ⟨b', o', rfl, hat'⟩ := (S2.out.grown hgx).at k hlk
          obtain ⟨vk, vv, g1, g2, r1, r2⟩ := hat'
          obtain ⟨hq1, hq2⟩ := HT3.out k hlk
          have HIS : Hid (inX (gP fa) T.1 T.2 S (k + 1) = (gP fa T.1 (T.2.getD k ([], []))).foldl insW (inX (gP fa) T.1 T.2 S k)) := inX_succ _ _ _ _ _ hlk
          generalize T.2.getD k ([], []) = Q at *
          generalize inX (gP fa) T.1 T.2 S k = X at *
          obtain ⟨ka, kc, rfl⟩ := r1.shape
          obtain ⟨ya, yc, rfl⟩ := r2.shape
          obtain ⟨W3, HW3, hg3, B3⟩ := alloc_named4 wr (.cells #[.slice ka Q.1.length kc, .slice ya Q.2.length yc] 53)
          obtain ⟨p0, p1, _, _⟩ := pair_room (grown_refl W3 none) B3.out
          have hg23 := grown_trans hgx hg3
          have R1 : Hid (SliceIs W3 (.slice ka Q.1.length kc) Q.1) := r1.grown hg3
          have R2 : Hid (SliceIs W3 (.slice ya Q.2.length yc) Q.2) := r2.grown hg3
          have RN : Hid (SliceIs W3 (.slice na T.1.length nc) T.1) := S1.out.grown hg23
          have HX3 : Hid (WritesB 0 W3 (.slice xa X.length xc) X) := hox.grown hg3
          obtain ⟨z, hz⟩ : ∃ z, z = decide (getF (ofF fa T.1) Q.1 = some Q.2) := ⟨_, rfl⟩
          have HIX : Hid (inX (gP fa) T.1 T.2 S (k + 1) = if z = true then X else insW X ⟨T.1, Q.1, Q.2, false⟩) := by
            show _ = _
            rw [HIS.out, gP, hz]
            split <;> rfl
          have CC : Hid (∀ W, W3.grownBy W none → Calls Tryz.prog 15 #[.slice aa fa.length ac, .slice na T.1.length nc, .agg #[.slice ka Q.1.length kc, .slice ya Q.2.length yc]] W fun e w' => e = .returned (.bool z) ∧ W.grownBy w' none) := fun W h => by
            rw [hz]
            exact CL.out W _ T.1 _ Q (grown_trans hg23 h) (RN.out.grown h) ⟨_, _, rfl, R1.out.grown h, R2.out.grown h⟩
          have c3 := hg3.cell d1 (by simp)
          have hb3 : wr.heap.size < W3.heap.size := cell_lt p0
          go_upto_region 15 with fail
          rw [← HW3.out]
          generalize wr.heap.size = pb at *
          clear r1 r2 hox HIS hz HW3 g1 g2 d2 d1 B3
          go_cut [68] (fun s68 wx => s68 = .bool (!z) ∧ W3.grownBy wx none)
          case first =>
            go_region_with (go_at_call 15; refine (CC.out _ (grown_drew (grown_refl _ _))).mono ?_; rintro e w5 ⟨rfl, hg5⟩)
            all_goals (go_wp2_with fail; go_meet; case rel => exact ⟨rfl, grown_trans (grown_drew (grown_refl _ _)) hg5⟩)
          case rest =>
            obtain ⟨rfl, hgc⟩ := hcut
            cases z with
            | true =>
              have HIY : Hid (inX (gP fa) T.1 T.2 S (k + 1) = X) := HIX.out
              go_wp2_with fail
              go_roundw
              case rel => exact ⟨k + 1, by omega, by go_num, by rw [HIY.out]; exact HX3.out.grown hgc, by rw [HIY.out]; omega, grown_trans hg23 hgc⟩
              case measure => simp [intOf]; omega
            | false =>
              have HIY : Hid (inX (gP fa) T.1 T.2 S (k + 1) = insW X ⟨T.1, Q.1, Q.2, false⟩) := HIX.out
              have HLI := ins_len X ⟨T.1, Q.1, Q.2, false⟩
              have hX80 : (X.length + 2) * 80 ≤ 140737488355328 := by omega
              have J1 : Hid (∀ w', W3.grownBy w' none → Calls Tryz.prog 17 #[.slice na T.1.length nc, .slice none 0 0] w' fun e w'' => ∃ v', e = .returned v' ∧ Own w'.heap.size w'' v' T.1 ∧ w'.grownBy w'' none) := fun w' hg' => by
                have := joined_gen w' _ (.slice none 0 0) T.1 [] (RN.out.grown hg') (sliceIs_nil _) (by simp; omega)
                rw [List.append_nil] at this
                exact this
              have J2 : Hid (∀ w', W3.grownBy w' none → Calls Tryz.prog 17 #[.slice ka Q.1.length kc, .slice none 0 0] w' fun e w'' => ∃ v', e = .returned v' ∧ Own w'.heap.size w'' v' Q.1 ∧ w'.grownBy w'' none) := fun w' hg' => by
                have := joined_gen w' _ (.slice none 0 0) Q.1 [] (R1.out.grown hg') (sliceIs_nil _) (by simp; omega)
                rw [List.append_nil] at this
                exact this
              have J3 : Hid (∀ w', W3.grownBy w' none → Calls Tryz.prog 17 #[.slice ya Q.2.length yc, .slice none 0 0] w' fun e w'' => ∃ v', e = .returned v' ∧ Own w'.heap.size w'' v' Q.2 ∧ w'.grownBy w'' none) := fun w' hg' => by
                have := joined_gen w' _ (.slice none 0 0) Q.2 [] (R2.out.grown hg') (sliceIs_nil _) (by simp; omega)
                rw [List.append_nil] at this
                exact this
              have IN : Hid (∀ w' x y z, W3.grownBy w' none → PartIs 0 w' x T.1 → PartIs 0 w' y Q.1 → PartIs 0 w' z Q.2 → Calls Tryz.prog 16 #[.slice xa X.length xc, .agg #[x, y, .bool false, z]] w' fun e w'' => ∃ v', e = .returned v' ∧ WritesB 0 w'' v' (insW X ⟨T.1, Q.1, Q.2, false⟩) ∧ w'.grownBy w'' none) := fun w' x y z h h1 h2 h3 => (inserted_any w' _ x y z X ⟨T.1, Q.1, Q.2, false⟩ (HX3.out.grown h) h1 h2 h3 hX80).mono (by rintro e w'' ⟨v', rfl, ho, hg⟩; exact ⟨v', rfl, ho.writesB, hg⟩)
              have HLI2 : Hid ((insW X ⟨T.1, Q.1, Q.2, false⟩).length = X.length + 1) := HLI
              clear HLI
              generalize insW X ⟨T.1, Q.1, Q.2, false⟩ = Y at *
              have hgd := grown_drew hgc
              have e0 := hgd.cell c3 (by simp)
              have e1 := hgd.cell p0 (by simp)
              have e2 := hgd.cell p1 (by simp)
              clear CC HIX R1 R2 RN HX3
              go_upto_region 16 with fail
              go_region_held3 (fun w' => w'.cell? ⟨b, o + m * 2, none⟩ = some (.slice na T.1.length nc) ∧ w'.cell? ⟨pb, 0, none⟩ = some (.slice ka Q.1.length kc) ∧ w'.cell? ⟨pb, 1, none⟩ = some (.slice ya Q.2.length yc))
                (first | with_reducible exact ⟨e0, e1, e2⟩ | with_reducible exact ⟨f0, f1, f2⟩ | with_reducible exact ⟨g0, g1, g2⟩ | with_reducible exact ⟨h0, h1, h2⟩ | with_reducible exact ⟨k0, k1, k2⟩)
                (first
                  | (go_at_call_of 17 (Value.slice na T.1.length nc); with_reducible refine (J1.out _ hgd).mono ?_; rintro e w5 ⟨v5, rfl, ho5, hg5⟩; obtain ⟨xa5, xc5, rfl⟩ := ho5.shape; have hgd5 := grown_trans hgd hg5; have f0 := hgd5.cell c3 (by simp); have f1 := hgd5.cell p0 (by simp); have f2 := hgd5.cell p1 (by simp))
                  | (go_at_call_of 17 (Value.slice ka Q.1.length kc); with_reducible refine (J2.out _ hgd5).mono ?_; rintro e w6 ⟨v6, rfl, ho6, hg6⟩; obtain ⟨xa6, xc6, rfl⟩ := ho6.shape; have hgd6 := grown_trans hgd5 hg6; have g0 := hgd6.cell c3 (by simp); have g1 := hgd6.cell p0 (by simp); have g2 := hgd6.cell p1 (by simp))
                  | (go_at_call_of 17 (Value.slice ya Q.2.length yc); with_reducible refine (J3.out _ hgd6).mono ?_; rintro e w7 ⟨v7, rfl, ho7, hg7⟩; obtain ⟨xa7, xc7, rfl⟩ := ho7.shape; have hgd7 := grown_trans hgd6 hg7; have h0 := hgd7.cell c3 (by simp); have h1 := hgd7.cell p0 (by simp); have h2 := hgd7.cell p1 (by simp))
                  | (go_at_call 16; with_reducible refine (IN.out _ _ _ _ hgd7 ((ho5.grownNone (grown_trans hg6 hg7)).part (base := 0)) ((ho6.grownNone hg7).part (base := 0)) (ho7.part (base := 0))).mono ?_; rintro e w8 ⟨v8, rfl, hY, hg8⟩; obtain ⟨xa8, xc8, rfl⟩ := hY.shape; have hgd8 := grown_trans hgd7 hg8; have k0 := hgd8.cell c3 (by simp); have k1 := hgd8.cell p0 (by simp); have k2 := hgd8.cell p1 (by simp)))
              have HY : Hid (WritesB 0 w8 (.slice xa8 Y.length xc8) Y) := hY
              have hg28 := grown_trans hg23 hgd8
              clear e0 e1 e2 f0 f1 f2 g0 g1 g2 h0 h1 h2 k0 k1 k2 ho5 ho6 ho7 hY hgd hgd5 hgd6 hgd7 hgd8 hg5 hg6 hg7 hg8 J1 J2 J3 IN
              go_wp2_with fail
              go_roundw
              case rel => exact ⟨k + 1, by omega, by go_num, by rw [HIY.out]; exact HY.out, by rw [HIY.out, HLI2.out]; omega, hg28⟩
              case measure => simp [intOf]; omega
        · obtain rfl : k = T.2.length := by omega
          have i2 : ¬ (T.2.length : Int) < (T.2.length : Int) := by omega
          go_wp2_with fail
          go_roundw
          case rel => exact ⟨m + 1, by omega, by go_num, by rw [HOS.out]; exact hox, by rw [HOS.out]; omega, hgx⟩
          case measure => simp [intOf]; omega
    · obtain rfl : m = fb.length := by omega
      obtain ⟨xa, xc, rfl⟩ := hov.shape
      have HSL : (outX (gP fa) [] fb fb.length).length ≤ 480 := by omega
      generalize outX (gP fa) [] fb fb.length = S0 at *
      have HOV : Hid (WritesB 0 wr (.slice xa S0.length xc) S0) := hov
      clear hov hlen hm hlt
      have HGR : Hid (w2.grownBy wr none) := hgr
      clear hgr
      go_wp2_with fail
      go_loopw [11, 15] (fun ov iv wr => ∃ m : Nat, m ≤ fa.length ∧ iv = .int .i64 (m : Int) ∧ WritesB 0 wr ov (outX (gG fb) S0 fa m) ∧ (outX (gG fb) S0 fa m).length ≤ 480 + 60 * m ∧ w2.grownBy wr none) (fun _ i _ => fa.length - (intOf i).toNat)
      case atStart => exact ⟨0, by omega, rfl, HOV.out, HSL, HGR.out⟩
      case round =>
        obtain ⟨m, hm, rfl, hov, hlen, hgr⟩ := hrel
        by_cases hlt : m < fa.length
        · obtain ⟨b, o, rfl, hat⟩ := HTA2.out.at m hlt
          obtain ⟨vn, vp, c1, c2, s1, s2⟩ := hat
          have HOS : Hid (outX (gG fb) S0 fa (m + 1) = inX (gG fb) (fa.getD m ([], [])).1 (fa.getD m ([], [])).2 (outX (gG fb) S0 fa m) (fa.getD m ([], [])).2.length) := outX_succ _ _ _ _ hlt
          obtain ⟨ht1, ht2, ht3⟩ := HFA.out m hlt
          generalize fa.getD m ([], []) = T at *
          generalize outX (gG fb) S0 fa m = S at *
          obtain ⟨na, nc, rfl⟩ := s1.shape
          obtain ⟨pa, pc, rfl⟩ := s2.shape
          have S1 : Hid (SliceIs w2 (.slice na T.1.length nc) T.1) := s1
          have S2 : Hid (PairsIs w2 (.slice pa T.2.length pc) T.2) := s2
          have HT3 : Hid (∀ k, k < T.2.length → (T.2.getD k ([], [])).1.length ≤ 1000000 ∧ (T.2.getD k ([], [])).2.length ≤ 1000000) := ht3
          have i1 : (m : Int) < (fa.length : Int) := by omega
          clear s1 s2 ht3
          go_wp2_with fail
          go_loopw [11, 16] (fun ov kv wx => ∃ k : Nat, k ≤ T.2.length ∧ kv = .int .i64 (k : Int) ∧ WritesB 0 wx ov (inX (gG fb) T.1 T.2 S k) ∧ (inX (gG fb) T.1 T.2 S k).length ≤ 480 + 60 * m + k ∧ w2.grownBy wx none) (fun _ i _ => T.2.length - (intOf i).toNat)
          case atStart => exact ⟨0, by omega, rfl, hov, hlen, hgr⟩
          case round =>
            obtain ⟨k, hk, rfl, hox, hlx, hgx⟩ := hrel
            have d1 := hgx.cell c1 (by simp)
            have d2 := hgx.cell c2 (by simp)
            obtain ⟨xa, xc, rfl⟩ := hox.shape
            by_cases hlk : k < T.2.length
            · have i2 : (k : Int) < (T.2.length : Int) := by omega
              obtain ⟨b', o', rfl, hat'⟩ := (S2.out.grown hgx).at k hlk
              obtain ⟨vk, vv, g1, g2, r1, r2⟩ := hat'
              obtain ⟨hq1, hq2⟩ := HT3.out k hlk
              have HIS : Hid (inX (gG fb) T.1 T.2 S (k + 1) = (gG fb T.1 (T.2.getD k ([], []))).foldl insW (inX (gG fb) T.1 T.2 S k)) := inX_succ _ _ _ _ _ hlk
              generalize T.2.getD k ([], []) = Q at *
              generalize inX (gG fb) T.1 T.2 S k = X at *
              obtain ⟨ka, kc, rfl⟩ := r1.shape
              obtain ⟨ya, yc, rfl⟩ := r2.shape
              obtain ⟨W3, HW3, hg3, B3⟩ := alloc_named4 wr (.cells #[.slice ka Q.1.length kc, .slice ya Q.2.length yc] 53)
              obtain ⟨p0, p1, _, _⟩ := pair_room (grown_refl W3 none) B3.out
              have hg23 := grown_trans hgx hg3
              have R1 : Hid (SliceIs W3 (.slice ka Q.1.length kc) Q.1) := r1.grown hg3
              have R2 : Hid (SliceIs W3 (.slice ya Q.2.length yc) Q.2) := r2.grown hg3
              have RN : Hid (SliceIs W3 (.slice na T.1.length nc) T.1) := S1.out.grown hg23
              have HX3 : Hid (WritesB 0 W3 (.slice xa X.length xc) X) := hox.grown hg3
              obtain ⟨z, hz⟩ : ∃ z, z = (getF (ofF fb T.1) Q.1).isSome := ⟨_, rfl⟩
              have HIX : Hid (inX (gG fb) T.1 T.2 S (k + 1) = if z = true then X else insW X ⟨T.1, Q.1, [], true⟩) := by
                show _ = _
                rw [HIS.out, gG, hz]
                split <;> rfl
              have CC : Hid (∀ W, W3.grownBy W none → Calls Tryz.prog 18 #[.slice ba fb.length bc, .slice na T.1.length nc, .slice ka Q.1.length kc] W fun e w' => e = .returned (.bool z) ∧ w' = W) := fun W h => by
                rw [hz]
                exact KI.out W _ T.1 _ Q.1 (grown_trans hg23 h) (RN.out.grown h) (R1.out.grown h)
              have c3 := hg3.cell d1 (by simp)
              have hb3 : wr.heap.size < W3.heap.size := cell_lt p0
              go_upto_region 24 with fail
              rw [← HW3.out]
              generalize wr.heap.size = pb at *
              clear r1 r2 hox HIS hz HW3 g1 g2 d2 d1 B3
              go_cut [117] (fun s117 wx => s117 = .bool (!z) ∧ W3.grownBy wx none)
              case first =>
                go_quiet (first | (go_at_call 18; exact Calls.quiet_of_same (CC.out _ (by first | exact grown_drewN (grown_refl _ _) _ | exact grown_refl _ _))))
                all_goals (go_wp2_with fail; go_meet; case rel => exact ⟨rfl, by first | exact grown_drewN (grown_refl _ _) _ | exact grown_refl _ _⟩)
              case rest =>
                obtain ⟨rfl, hgc⟩ := hcut
                cases z with
                | true =>
                  have HIY : Hid (inX (gG fb) T.1 T.2 S (k + 1) = X) := HIX.out
                  go_wp2_with fail
                  go_roundw
                  case rel => exact ⟨k + 1, by omega, by go_num, by rw [HIY.out]; exact HX3.out.grown hgc, by rw [HIY.out]; omega, grown_trans hg23 hgc⟩
                  case measure => simp [intOf]; omega
                | false =>
                  have HIY : Hid (inX (gG fb) T.1 T.2 S (k + 1) = insW X ⟨T.1, Q.1, [], true⟩) := HIX.out
                  have HLI := ins_len X ⟨T.1, Q.1, [], true⟩
                  have hX80 : (X.length + 2) * 80 ≤ 140737488355328 := by omega
                  have J1 : Hid (∀ w', W3.grownBy w' none → Calls Tryz.prog 17 #[.slice na T.1.length nc, .slice none 0 0] w' fun e w'' => ∃ v', e = .returned v' ∧ Own w'.heap.size w'' v' T.1 ∧ w'.grownBy w'' none) := fun w' hg' => by
                    have := joined_gen w' _ (.slice none 0 0) T.1 [] (RN.out.grown hg') (sliceIs_nil _) (by simp; omega)
                    rw [List.append_nil] at this
                    exact this
                  have J2 : Hid (∀ w', W3.grownBy w' none → Calls Tryz.prog 17 #[.slice ka Q.1.length kc, .slice none 0 0] w' fun e w'' => ∃ v', e = .returned v' ∧ Own w'.heap.size w'' v' Q.1 ∧ w'.grownBy w'' none) := fun w' hg' => by
                    have := joined_gen w' _ (.slice none 0 0) Q.1 [] (R1.out.grown hg') (sliceIs_nil _) (by simp; omega)
                    rw [List.append_nil] at this
                    exact this
                  have IN : Hid (∀ w' x y, W3.grownBy w' none → PartIs 0 w' x T.1 → PartIs 0 w' y Q.1 → Calls Tryz.prog 16 #[.slice xa X.length xc, .agg #[x, y, .bool true, .slice none 0 0]] w' fun e w'' => ∃ v', e = .returned v' ∧ WritesB 0 w'' v' (insW X ⟨T.1, Q.1, [], true⟩) ∧ w'.grownBy w'' none) := fun w' x y h h1 h2 => (inserted_any w' _ x y (.slice none 0 0) X ⟨T.1, Q.1, [], true⟩ (HX3.out.grown h) h1 h2 (partIs_nilH w') hX80).mono (by rintro e w'' ⟨v', rfl, ho, hg⟩; exact ⟨v', rfl, ho.writesB, hg⟩)
                  have HLI2 : Hid ((insW X ⟨T.1, Q.1, [], true⟩).length = X.length + 1) := HLI
                  clear HLI
                  generalize insW X ⟨T.1, Q.1, [], true⟩ = Y at *
                  have hgd := grown_drew hgc
                  have e0 := hgd.cell c3 (by simp)
                  have e1 := hgd.cell p0 (by simp)
                  have e2 := hgd.cell p1 (by simp)
                  clear CC HIX R1 R2 RN HX3
                  go_upto_region 25 with fail
                  go_region_held3 (fun w' => w'.cell? ⟨b, o + m * 2, none⟩ = some (.slice na T.1.length nc) ∧ w'.cell? ⟨pb, 0, none⟩ = some (.slice ka Q.1.length kc) ∧ w'.cell? ⟨pb, 1, none⟩ = some (.slice ya Q.2.length yc))
                    (first | with_reducible exact ⟨e0, e1, e2⟩ | with_reducible exact ⟨f0, f1, f2⟩ | with_reducible exact ⟨g0, g1, g2⟩ | with_reducible exact ⟨k0, k1, k2⟩)
                    (first
                      | (go_at_call_of 17 (Value.slice na T.1.length nc); with_reducible refine (J1.out _ hgd).mono ?_; rintro e w5 ⟨v5, rfl, ho5, hg5⟩; obtain ⟨xa5, xc5, rfl⟩ := ho5.shape; have hgd5 := grown_trans hgd hg5; have f0 := hgd5.cell c3 (by simp); have f1 := hgd5.cell p0 (by simp); have f2 := hgd5.cell p1 (by simp))
                      | (go_at_call_of 17 (Value.slice ka Q.1.length kc); with_reducible refine (J2.out _ hgd5).mono ?_; rintro e w6 ⟨v6, rfl, ho6, hg6⟩; obtain ⟨xa6, xc6, rfl⟩ := ho6.shape; have hgd6 := grown_trans hgd5 hg6; have g0 := hgd6.cell c3 (by simp); have g1 := hgd6.cell p0 (by simp); have g2 := hgd6.cell p1 (by simp))
                      | (go_at_call 16; with_reducible refine (IN.out _ _ _ hgd6 ((ho5.grownNone hg6).part (base := 0)) (ho6.part (base := 0))).mono ?_; rintro e w8 ⟨v8, rfl, hY, hg8⟩; obtain ⟨xa8, xc8, rfl⟩ := hY.shape; have hgd8 := grown_trans hgd6 hg8; have k0 := hgd8.cell c3 (by simp); have k1 := hgd8.cell p0 (by simp); have k2 := hgd8.cell p1 (by simp)))
                  have HY : Hid (WritesB 0 w8 (.slice xa8 Y.length xc8) Y) := hY
                  have hg28 := grown_trans hg23 hgd8
                  clear e0 e1 e2 f0 f1 f2 g0 g1 g2 k0 k1 k2 ho5 ho6 hY hgd hgd5 hgd6 hgd8 hg5 hg6 hg8 J1 J2 IN
                  go_wp2_with fail
                  go_roundw
                  case rel => exact ⟨k + 1, by omega, by go_num, by rw [HIY.out]; exact HY.out, by rw [HIY.out, HLI2.out]; omega, hg28⟩
                  case measure => simp [intOf]; omega
            · obtain rfl : k = T.2.length := by omega
              have i2 : ¬ (T.2.length : Int) < (T.2.length : Int) := by omega
              go_wp2_with fail
              go_roundw
              case rel => exact ⟨m + 1, by omega, by go_num, by rw [HOS.out]; exact hox, by rw [HOS.out]; omega, hgx⟩
              case measure => simp [intOf]; omega
        · obtain rfl : m = fa.length := by omega
          obtain ⟨ua, uc, rfl⟩ := hov.shape
          have i1 : ¬ (fa.length : Int) < (fa.length : Int) := by omega
          have HZL : Hid (WritesIs wr (.slice ua (outX (gG fb) S0 fa fa.length).length uc) Z) := by
            show WritesIs _ _ _
            rw [HZ.out]; exact hov.list
          generalize (outX (gG fb) S0 fa fa.length).length = zl at *
          clear hov hlen
          go_wp2
          go_ret2
          exact ⟨_, rfl, HZL.out, grown_trans hg12 hgr⟩
end Go.Proofs.YtljdconhplgipaaGreat
