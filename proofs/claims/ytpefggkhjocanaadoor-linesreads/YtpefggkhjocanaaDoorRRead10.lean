/-
  The document's answer: ActsRead.
-/
import Derived.Test.YtpefggkhjocanaaDoorRLActN
import Derived.Test.YtpefggkhjocanaaDoorPart2
import Derived.Test.YtpefggkhjocanaaDoorPart1
namespace Go.Proofs.YtpefggkhjocanaaDoor
open Go.RowKit
theorem rd_on {t : List UInt8} {acc : List Ac} {f m : Nat} (hf : f ≤ m) (hm : m < t.length) (hc : t.getD m 0 ≠ 10) (h : rdA [] [] t = rdA acc ((t.drop f).take (m - f)) (t.drop m)) : rdA [] [] t = rdA acc ((t.drop f).take (m + 1 - f)) (t.drop (m + 1)) := by
  rw [h, List.drop_eq_getElem_cons hm, rdA, show t[m] = t.getD m 0 by simp [hm], if_neg hc, take_more hf hm]
theorem rd_line {t : List UInt8} {acc : List Ac} {f m : Nat} (hm : m < t.length) (hc : t.getD m 0 = 10) (h : rdA [] [] t = rdA acc ((t.drop f).take (m - f)) (t.drop m)) :
    (acc.length = 100000 → rdA [] [] t = (11, 100000, [])) ∧ (acc.length ≠ 100000 → (lineA ((t.drop f).take (m - f))).kind = 0 → rdA [] [] t = (4, acc.length, [])) ∧ (acc.length ≠ 100000 → (lineA ((t.drop f).take (m - f))).kind ≠ 0 → rdA [] [] t = rdA (acc ++ [lineA ((t.drop f).take (m - f))]) [] (t.drop (m + 1))) := by
  rw [List.drop_eq_getElem_cons hm, rdA, show t[m] = t.getD m 0 by simp [hm], if_pos hc] at h
  exact ⟨fun e => by rw [h, if_pos e], fun e k => by rw [h, if_neg e, if_pos k], fun e k => by rw [h, if_neg e, if_neg k]⟩
theorem rd_end {t : List UInt8} {acc : List Ac} {f : Nat} (hf : f ≤ t.length) (h : rdA [] [] t = rdA acc ((t.drop f).take (t.length - f)) (t.drop t.length)) :
    (f = t.length → rdA [] [] t = (0, 0, acc)) ∧ (f ≠ t.length → acc.length = 100000 → rdA [] [] t = (11, 100000, [])) ∧ (f ≠ t.length → acc.length ≠ 100000 → rdA [] [] t = (4, acc.length, [])) := by
  have hl : ((t.drop f).take (t.length - f)).length = t.length - f := by rw [List.length_take, List.length_drop]; omega
  rw [List.drop_length, rdA, hl] at h
  exact ⟨fun e => by rw [h, if_pos (by omega)], fun e k => by rw [h, if_neg (by omega), if_pos k], fun e k => by rw [h, if_neg (by omega), if_neg k]⟩
theorem read_of {t : List UInt8} (hl : t.length ≤ 2000000) {e : Int} {i : Nat} {l : List Ac} (h : rdA [] [] t = (e, i, l)) : readE t = e ∧ readI t = i ∧ readL t = l := by
  refine ⟨?_, ?_, ?_⟩
  · rw [readE, if_neg (by omega), h]
  · rw [readI, if_neg (by omega), h]
  · rw [readL, if_neg (by omega), h]
set_option maxRecDepth 100000 in
set_option maxHeartbeats 2000000 in
theorem actsRead_any (S : ByteArray) (w : World) : Calls Tryd.prog 13 #[.string S] w fun e w' => ∃ x, e = .returned (.tuple #[x, .int .i64 (readI (tl S) : Int), .int .i64 (readE (tl S))]) ∧ ActsIs w' x (readL (tl S)) ∧ w.grownBy w' none := by
  have HS : Hid (S.size = (tl S).length) := tl_size S
  have HG : Hid (∀ i (h : i < S.size), (tl S).getD i 0 = S[i]) := fun i h => tl_get S i h
  by_cases hL : 2000000 < S.size
  · have hL' : 2000000 < (tl S).length := by rw [← HS.out]; exact hL
    rw [show readE (tl S) = 1 by rw [readE, if_pos hL'], show readI (tl S) = 0 by rw [readI, if_pos hL'], show readL (tl S) = [] by rw [readL, if_pos hL']]
    have t1 : (S.size : Int) > 2000000 := by omega
    clear hL hL' HS HG
    go_enter Tryd.func13, Tryd.ntmps13
    go_wp2
    refine bodyPost_ret (v := .tuple #[.slice none 0 0, .int .i64 0, .int .i64 1]) (by simp [results, Tryd.results13, go_sem]) rfl ?_
    exact ⟨_, rfl, actsIs_nil _, grown_refl _ _⟩
  · have t1 : ¬ (S.size : Int) > 2000000 := by omega
    have hl : S.size ≤ 2000000 := by omega
    have HRO : Hid (∀ (e : Int) (i : Nat) (l : List Ac), rdA [] [] (tl S) = (e, i, l) → readE (tl S) = e ∧ readI (tl S) = i ∧ readL (tl S) = l) := fun e i l h => read_of (by rw [← HS.out]; exact hl) h
    generalize readE (tl S) = rE at *
    generalize readI (tl S) = rI at *
    generalize readL (tl S) = rL at *
    clear hL
    go_enter Tryd.func13, Tryd.ntmps13
    go_wp2_with fail
    go_loopw [5, 6, 7] (fun lv fv iv wr => ∃ (m f : Nat) (acc : List Ac), iv = .int .i64 (m : Int) ∧ fv = .int .i64 (f : Int) ∧ OwnA w.heap.size wr lv acc ∧ acc.length ≤ 100000 ∧ w.grownBy wr none ∧ ((m ≤ S.size ∧ f ≤ m ∧ rdA [] [] (tl S) = rdA acc (((tl S).drop f).take (m - f)) ((tl S).drop m)) ∨ (m = S.size + 1 ∧ rdA [] [] (tl S) = (0, 0, acc)))) (fun _ _ iv _ => S.size + 1 - (intOf iv).toNat)
    case atStart => exact ⟨0, 0, [], rfl, rfl, ownA_nil _ _, by simp, grown_refl _ _, .inl ⟨by omega, by omega, rfl⟩⟩
    case round =>
      obtain ⟨m, f, acc, rfl, rfl, hown, hal, hg, hcase⟩ := hrel
      have hsz := hg.size
      obtain ⟨oa, oc, rfl⟩ := hown.shape
      have HOW : Hid (OwnA w.heap.size wr (.slice oa acc.length oc) acc) := hown
      clear hown
      rcases hcase with ⟨hm, hf, hr⟩ | ⟨rfl, hr⟩
      · have i1 : (m : Int) ≤ (S.size : Int) := by omega
        have hfi : (f : Int) ≤ (m : Int) := by omega
        have HR : Hid (rdA [] [] (tl S) = rdA acc (((tl S).drop f).take (m - f)) ((tl S).drop m)) := hr
        have LA : Hid (∀ W : World, Calls Tryd.prog 28 #[.string (S.extract f m)] W fun e w' => ∃ vd, e = .returned (.agg #[.int .i64 (lineA (((tl S).drop f).take (m - f))).kind, .int .i64 (lineA (((tl S).drop f).take (m - f))).sess, .int .i64 (lineA (((tl S).drop f).take (m - f))).keep, vd]) ∧ PartIs 0 w' vd (lineA (((tl S).drop f).take (m - f))).data ∧ W.grownBy w' none) := fun W => by
          have := lineAct_any (S.extract f m) W (by rw [ByteArray.size_extract]; omega)
          rw [tl_extract] at this
          exact this
        clear hr
        by_cases hlt : m < S.size
        · have b1 : (m : Int) < (S.size : Int) := by omega
          have b2 : ¬ (m : Int) = (S.size : Int) := by omega
          have b3 : ((m : Int) == (S.size : Int)) = false := beq_eq_false_iff_ne.2 b2
          have hgm := HG.out m hlt
          have HML : Hid (m < (tl S).length) := by show _ < _; rw [← HS.out]; exact hlt
          by_cases h10 : (S[m]'hlt).toNat = 10
          · have c2 : ((S[m]'hlt).toNat : Int) = 10 := by omega
            obtain ⟨r1, r2, r3⟩ := rd_line HML.out (by rw [hgm]; exact UInt8.toNat_inj.1 h10) HR.out
            have HR1 : Hid (acc.length = 100000 → rdA [] [] (tl S) = (11, 100000, [])) := r1
            have HR2 : Hid (acc.length ≠ 100000 → (lineA (((tl S).drop f).take (m - f))).kind = 0 → rdA [] [] (tl S) = (4, acc.length, [])) := r2
            have HR3 : Hid (acc.length ≠ 100000 → (lineA (((tl S).drop f).take (m - f))).kind ≠ 0 → rdA [] [] (tl S) = rdA (acc ++ [lineA (((tl S).drop f).take (m - f))]) [] ((tl S).drop (m + 1))) := r3
            generalize lineA (((tl S).drop f).take (m - f)) = X at *
            clear r1 r2 r3 HR hgm h10
            by_cases hfull : acc.length = 100000
            · have j1 : (acc.length : Int) = 100000 := by omega
              obtain ⟨e1, e2, e3⟩ := HRO.out _ _ _ (HR1.out hfull)
              subst e1 e2 e3
              clear HR1 HR2 HR3 LA HRO HG HOW
              go_wp2
              refine bodyPost_ret (v := .tuple #[.slice none 0 0, .int .i64 100000, .int .i64 11]) (by simp [results, Tryd.results13, go_sem]) rfl ?_
              exact ⟨_, rfl, actsIs_nil _, hg⟩
            · have j1 : ¬ (acc.length : Int) = 100000 := by omega
              have HF : Hid (acc.length ≠ 100000) := hfull
              clear hfull HG HR1
              go_wp2_with fail
              refine (LA.out _).mono ?_
              rintro e w1 ⟨vd, rfl, hp, hg1⟩
              obtain ⟨va, vc, rfl⟩ := hp.slice.shape
              obtain ⟨W2, HW2, hg2, B2⟩ := alloc_namedR w1 (.cells #[.int .i64 X.kind, .int .i64 X.sess, .int .i64 X.keep, .slice va X.data.length vc] 36)
              obtain ⟨⟨z0, z1, z2, z3⟩, _⟩ := quad_room (grown_refl W2 none) B2.out
              have hgw2 := grown_trans hg (grown_trans hg1 hg2)
              have HO2 : Hid (OwnA w.heap.size W2 (.slice oa acc.length oc) acc) := HOW.out.grownNone (grown_trans hg1 hg2)
              have HP2 : Hid (PartIs 0 (W2.alloc (.cells #[.int .i64 X.kind, .int .i64 X.sess, .int .i64 X.keep, .slice va X.data.length vc] 36)) (.slice va X.data.length vc) X.data) := (hp.keptT hg2 (.inl rfl)).keptT (World.grownBy_alloc _ _ _) (.inl rfl)
              clear hp HOW LA hg1 hg2
              obtain ⟨B, hB⟩ : ∃ B, B = w1.heap.size := ⟨_, rfl⟩
              rw [← hB] at z0 z1 z2 z3 B2
              go_upto_region 12 with fail
              rw [← HW2.out, ← hB]
              clear hB HW2
              by_cases hk : X.kind = 0
              · obtain ⟨e1, e2, e3⟩ := HRO.out _ _ _ (HR2.out HF.out hk)
                subst e1 e2 e3
                clear HR2 HR3 HRO HO2 HP2
                go_wp2
                refine bodyPost_ret (v := .tuple #[.slice none 0 0, .int .i64 (acc.length : Int), .int .i64 4]) (by simp [results, Tryd.results13, go_sem]) rfl ?_
                exact ⟨_, rfl, actsIs_nil _, hgw2⟩
              · have HN : Hid (rdA [] [] (tl S) = rdA (acc ++ [X]) [] ((tl S).drop (m + 1))) := HR3.out HF.out hk
                have hlt5 : acc.length < 100000 := by have := HF.out; omega
                have hsz2 := hgw2.size
                clear HR2 HR3 HRO HF
                go_wp2_with (at_builtin; refine wpList_append_ac rfl _ _ rfl w.heap.size (.slice oa acc.length oc) acc rfl (HO2.out.alloc _) (.slice va X.data.length vc) X HP2.out W2.heap.size (heap_alloc_new W2 _) rfl (by omega) (by simp; omega) ?_; intro v4 w4 ho4 hg4)
                have hgw4 : w.grownBy w4 none := grown_ownA (grown_alloc hgw2 _) (HO2.out.alloc _) (Nat.le_refl _) hg4
                go_roundw
                case rel => exact ⟨m + 1, m + 1, acc ++ [X], by go_num, by go_num, ho4, by rw [List.length_append, List.length_singleton]; omega, hgw4, .inl ⟨by omega, by omega, by rw [Nat.sub_self, List.take_zero]; exact HN.out⟩⟩
                case measure => simp [intOf] <;> omega
          · have c2 : ¬ ((S[m]'hlt).toNat : Int) = 10 := by omega
            have HN : Hid (rdA [] [] (tl S) = rdA acc (((tl S).drop f).take (m + 1 - f)) ((tl S).drop (m + 1))) := rd_on hf HML.out (by rw [hgm]; intro e; exact h10 (by rw [e]; rfl)) HR.out
            clear h10 hgm HR LA HG HRO
            go_wp2_with fail
            go_roundw
            case rel => exact ⟨m + 1, f, acc, by go_num, rfl, HOW.out, hal, hg, .inl ⟨by omega, by omega, HN.out⟩⟩
            case measure => simp [intOf] <;> omega
        · obtain rfl : m = S.size := by omega
          have HR' : Hid (rdA [] [] (tl S) = rdA acc (((tl S).drop f).take ((tl S).length - f)) ((tl S).drop (tl S).length)) := by
            have h := HR.out
            rw [HS.out] at h
            exact h
          obtain ⟨r1, r2, r3⟩ := rd_end (by rw [← HS.out]; exact hf) HR'.out
          rw [← HS.out] at r1 r2 r3
          have HR2 : Hid (f ≠ S.size → acc.length = 100000 → rdA [] [] (tl S) = (11, 100000, [])) := r2
          have HR3 : Hid (f ≠ S.size → acc.length ≠ 100000 → rdA [] [] (tl S) = (4, acc.length, [])) := r3
          have HR1 : Hid (f = S.size → rdA [] [] (tl S) = (0, 0, acc)) := r1
          clear r1 r2 r3 HR HR'
          by_cases hfs : f = S.size
          · have HN : Hid (rdA [] [] (tl S) = (0, 0, acc)) := HR1.out hfs
            subst hfs
            clear HR1 HR2 HR3 LA HG HRO
            go_wp2_with fail
            go_roundw
            case rel => exact ⟨S.size + 1, S.size, acc, by go_num, rfl, HOW.out, hal, hg, .inr ⟨rfl, HN.out⟩⟩
            case measure => simp [intOf] <;> omega
          · have j0 : ¬ (f : Int) = (S.size : Int) := by omega
            by_cases hfull : acc.length = 100000
            · have j1 : (acc.length : Int) = 100000 := by omega
              obtain ⟨e1, e2, e3⟩ := HRO.out _ _ _ (HR2.out hfs hfull)
              subst e1 e2 e3
              clear HR1 HR2 HR3 LA HRO HG HOW
              go_wp2
              refine bodyPost_ret (v := .tuple #[.slice none 0 0, .int .i64 100000, .int .i64 11]) (by simp [results, Tryd.results13, go_sem]) rfl ?_
              exact ⟨_, rfl, actsIs_nil _, hg⟩
            · have j1 : ¬ (acc.length : Int) = 100000 := by omega
              obtain ⟨e1, e2, e3⟩ := HRO.out _ _ _ (HR3.out hfs hfull)
              subst e1 e2 e3
              generalize lineA (((tl S).drop f).take (S.size - f)) = X at *
              clear HR1 HR2 HR3 HRO HG HOW hfull hfs
              go_wp2_with fail
              refine (LA.out _).mono ?_
              rintro e w1 ⟨vd, rfl, hp, hg1⟩
              obtain ⟨va, vc, rfl⟩ := hp.slice.shape
              obtain ⟨W2, HW2, hg2, B2⟩ := alloc_namedR w1 (.cells #[.int .i64 X.kind, .int .i64 X.sess, .int .i64 X.keep, .slice va X.data.length vc] 36)
              obtain ⟨⟨z0, z1, z2, z3⟩, _⟩ := quad_room (grown_refl W2 none) B2.out
              have hgw2 := grown_trans hg (grown_trans hg1 hg2)
              clear hp LA hg1 hg2
              obtain ⟨B, hB⟩ : ∃ B, B = w1.heap.size := ⟨_, rfl⟩
              rw [← hB] at z0 z1 z2 z3 B2
              go_upto_region 12 with fail
              rw [← HW2.out, ← hB]
              clear hB HW2
              by_cases hk : X.kind = 0
              · go_wp2
                refine bodyPost_ret (v := .tuple #[.slice none 0 0, .int .i64 (acc.length : Int), .int .i64 4]) (by simp [results, Tryd.results13, go_sem]) rfl ?_
                exact ⟨_, rfl, actsIs_nil _, hgw2⟩
              · go_wp2
                refine bodyPost_ret (v := .tuple #[.slice none 0 0, .int .i64 (acc.length : Int), .int .i64 4]) (by simp [results, Tryd.results13, go_sem]) rfl ?_
                exact ⟨_, rfl, actsIs_nil _, hgw2⟩
      · have i1 : ¬ (((S.size + 1 : Nat) : Int) ≤ (S.size : Int)) := by omega
        obtain ⟨e1, e2, e3⟩ := HRO.out _ _ _ hr
        have HRL : Hid (ActsIs wr (.slice oa acc.length oc) acc) := HOW.out.list
        clear HOW HG HRO hr
        subst e1 e2 e3
        go_wp2
        refine bodyPost_ret (v := .tuple #[.slice oa rL.length oc, .int .i64 0, .int .i64 0]) (by simp [results, Tryd.results13, go_sem]) rfl ?_
        exact ⟨_, rfl, HRL.out, hg⟩
end Go.Proofs.YtpefggkhjocanaaDoor
