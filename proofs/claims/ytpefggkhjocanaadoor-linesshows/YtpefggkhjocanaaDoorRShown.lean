/-
  The document's answer: ActsShown.
-/
import Derived.Test.YtpefggkhjocanaaDoorRLine
import Derived.Test.YtpefggkhjocanaaDoorRAct1
import Derived.Test.YtpefggkhjocanaaDoorLineG
namespace Go.Proofs.YtpefggkhjocanaaDoor
open Go.RowKit
set_option maxRecDepth 100000 in
set_option maxHeartbeats 2000000 in
theorem actsShown_any (w : World) (v : Value) (l : List Ac) (hv : ActsIs w v l) (hf : FitsA l) :
    Calls Tryd.prog 10 #[v] w fun e w' => e = .returned (.tuple #[.string (textOf (showT l)), .int .i64 (showI l : Int), .int .i64 (showE l)]) ∧ w.grownBy w' none := by
  obtain ⟨a, cap, rfl⟩ := hv.shape
  have hmany := hf.many
  by_cases hL : 100000 < l.length
  · obtain ⟨e1, e2, e3⟩ := show_long hL
    rw [e1, e2, e3]
    have t1 : (l.length : Int) > 100000 := by omega
    clear e1 e2 e3 hv hf hL
    go_enter Tryd.func10, Tryd.ntmps10
    go_wp2
    refine bodyPost_ret (v := .tuple #[.string (textOf []), .int .i64 0, .int .i64 1]) (by simp [results, Tryd.results10, go_sem, textOf]) rfl ?_
    exact ⟨rfl, grown_refl _ _⟩
  · have t1 : ¬ (l.length : Int) > 100000 := by omega
    have hL' : l.length ≤ 100000 := by omega
    have HB : Hid (∀ {i : Nat} {e : Int}, badA 0 l = some (i, e) → e ≠ 0 → showE l = e ∧ showI l = i ∧ showT l = []) := fun h he => show_bad hL' h he
    have HE : Hid (badA 0 l = none → showE l = 0 ∧ showI l = 0 ∧ showT l = showB l) := fun h => show_end hL' h
    have HV : Hid (ActsIs w (.slice a l.length cap) l) := hv
    have HF : Hid (FitsA l) := hf
    generalize showE l = SE at *
    generalize showI l = SI at *
    generalize showT l = ST at *
    clear hv hf hL
    go_enter Tryd.func10, Tryd.ntmps10
    go_wp2_with fail
    go_loopw [5, 6] (fun bv iv wr => ∃ m : Nat, m ≤ l.length ∧ iv = .int .i64 (m : Int) ∧ Own w.heap.size wr bv (showB (l.take m)) ∧ (showB (l.take m)).length ≤ m * 9000 ∧ badA 0 l = badA m (l.drop m) ∧ w.grownBy wr none) (fun _ iv _ => l.length - (intOf iv).toNat)
    case atStart => exact ⟨0, by omega, rfl, by rw [List.take_zero]; exact own_nil _ _, by rw [List.take_zero]; simp [showB], by rw [List.drop_zero], grown_refl _ _⟩
    case round =>
      obtain ⟨m, hm, rfl, hob, hlen, hbad, hg⟩ := hrel
      obtain ⟨ba, bc, rfl⟩ := hob.shape
      have hsz := hg.size
      by_cases hlt : m < l.length
      · have i1 : (m : Int) < (l.length : Int) := by omega
        obtain ⟨b, o, rfl, hat⟩ := HV.out.at m hlt
        obtain ⟨vd, c1, c2, c3, c4, s1⟩ := hat.grown hg
        obtain ⟨da, dc, rfl⟩ := s1.shape
        obtain ⟨g1, g2⟩ := show_go hlt hbad
        have hst := showB_step l m hlt
        have hfm := HF.out.each m hlt
        generalize l.getD m noAc = A at *
        have AF : Hid (Calls Tryd.prog 23 #[.agg #[.int .i64 A.kind, .int .i64 A.sess, .int .i64 A.keep, .slice da A.data.length dc]] wr fun e w' => e = .returned (.int .i64 (actE A)) ∧ wr.grownBy w' none) := actFault_any wr _ A ⟨_, rfl, s1⟩ hfm
        by_cases hA : actE A = 0
        · have hok := (act_iff A).1 hA
          have hll := lineF_len hok
          have hdd := hok.data
          have AL : Hid (∀ w', wr.grownBy w' none → Calls Tryd.prog 24 #[.agg #[.int .i64 A.kind, .int .i64 A.sess, .int .i64 A.keep, .slice da A.data.length dc]] w' fun e w'' => ∃ x, e = .returned x ∧ Own w'.heap.size w'' x (lineF A) ∧ w'.grownBy w'' none) := fun w' hg' => actLine_any w' _ A ⟨_, rfl, s1.grown hg'⟩ hok
          have G1 : Hid (badA 0 l = badA (m + 1) (l.drop (m + 1))) := g1 hA
          rw [hA] at AF
          have HO : Hid (Own w.heap.size wr (.slice ba (showB (l.take m)).length bc) (showB (l.take m))) := hob
          have HST : Hid (showB (l.take (m + 1)) = showB (l.take m) ++ lineF A ++ [10]) := hst
          have hLF : (lineF A).length ≤ 8100 := by omega
          generalize showB (l.take m) = S0 at *
          generalize lineF A = LF at *
          generalize A.data.length = n at *
          clear hob hat s1 hst g1 g2 hfm hok hA hll hdd hbad
          go_wp2_with fail
          refine AF.out.mono ?_
          rintro e w1 ⟨rfl, hg1⟩
          have d1 := hg1.cell c1 (by simp)
          have d2 := hg1.cell c2 (by simp)
          have d3 := hg1.cell c3 (by simp)
          have d4 := hg1.cell c4 (by simp)
          have hgw1 := grown_trans hg hg1
          clear c1 c2 c3 c4
          go_wp2_with fail
          refine (AL.out _ hg1).mono ?_
          rintro e w2 ⟨x2, rfl, ho2, hg2⟩
          have hgw2 := grown_trans hgw1 hg2
          obtain ⟨xa, xc, rfl⟩ := ho2.shape
          have HX : Hid (SliceIs w2 (.slice xa LF.length xc) LF) := ho2.slice
          have HO2 : Hid (Own w.heap.size w2 (.slice ba S0.length bc) S0) := HO.out.grownNone (grown_trans hg1 hg2)
          have hs2 := hgw2.size
          clear ho2 d1 d2 d3 d4 AL AF
          go_upto_region 11 with (at_builtin; refine wpList_append_bytes rfl _ _ rfl w.heap.size (.slice ba S0.length bc) S0 rfl HO2.out xa LF.length xc LF rfl HX.out (by omega) hs2 ?_; intro v3 w3 ho3 hg3)
          have hgw3 := grown_own hgw2 HO2.out hg3
          obtain ⟨ya, yc, rfl⟩ := ho3.shape
          have HO3 : Hid (Own w.heap.size w3 (.slice ya (S0 ++ LF).length yc) (S0 ++ LF)) := ho3
          have hl3 : (S0 ++ LF).length ≤ m * 9000 + 8100 := by rw [List.length_append]; omega
          generalize S0 ++ LF = S1 at *
          have hs3 := hgw3.size
          have H10 : Hid (SliceIs (w3.alloc (.cells #[.int .u8 10] 5)) (.slice (some ⟨w3.heap.size, 0, none⟩) 1 1) [10]) := one_slice w3 10 5
          clear ho3 hg3 HO2 HX HO
          go_wp2_with (at_builtin; refine wpList_append_bytes rfl _ _ rfl w.heap.size (.slice ya S1.length yc) S1 rfl (HO3.out.alloc _) (some ⟨w3.heap.size, 0, none⟩) 1 1 [10] rfl H10.out (by omega) (by simp; omega) ?_; intro v4 w4 ho4 hg4)
          have hgw4 := grown_own (grown_alloc hgw3 _) (HO3.out.alloc _) hg4
          rw [← HST.out] at ho4
          have hl4 : (showB (l.take (m + 1))).length ≤ (m + 1) * 9000 := by rw [HST.out, List.length_append, List.length_singleton]; omega
          go_wp2_with fail
          go_roundw
          case rel => exact ⟨m + 1, by omega, by go_num, ho4, hl4, G1.out, hgw4⟩
          case measure => simp [intOf]; omega
        · obtain ⟨e1, e2, e3⟩ := HB.out (g2 hA) hA
          clear g1 g2 hat hbad hst hfm s1 hob
          have HA : Hid (SE = actE A ∧ SI = m ∧ ST = []) := ⟨e1, e2, e3⟩
          generalize actE A = AE at *
          clear e1 e2 e3
          go_wp2_with fail
          refine AF.out.mono ?_
          rintro e w1 ⟨rfl, hg1⟩
          go_wp2
          refine bodyPost_ret (v := .tuple #[.string (textOf []), .int .i64 (m : Int), .int .i64 AE]) (by simp [results, Tryd.results10, go_sem, textOf]) rfl ?_
          obtain ⟨e1, e2, e3⟩ := HA.out
          exact ⟨by rw [e1, e2, e3], grown_trans hg hg1⟩
      · obtain rfl : m = l.length := by omega
        obtain ⟨e1, e2, e3⟩ := HE.out (by rw [hbad, List.drop_length]; rfl)
        have CV : (convert 34 9 (.slice ba (showB (l.take l.length)).length bc)).run Tryd.prog wr = .ok (.string (textOf (showB l))) wr := by
          rw [List.take_length] at hob ⊢
          exact conv_bytes _ _ _ hob.slice
        have HA : Hid (SE = 0 ∧ SI = 0 ∧ ST = showB l) := ⟨e1, e2, e3⟩
        clear hob hlen hbad e1 e2 e3
        generalize (showB (l.take l.length)).length = n at *
        have HT : Hid (textOf (showB l) = textOf (showB l)) := rfl
        generalize hTT : textOf (showB l) = TT at *
        go_wp2
        refine bodyPost_ret (v := .tuple #[.string TT, .int .i64 0, .int .i64 0]) (by simp [results, Tryd.results10, go_sem]) rfl ?_
        obtain ⟨e1, e2, e3⟩ := HA.out
        exact ⟨by rw [e1, e2, e3, hTT]; rfl, hg⟩
end Go.Proofs.YtpefggkhjocanaaDoor
