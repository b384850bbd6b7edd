/-
  The walk of canopykeep.ProofForm, over what the code must keep.
-/
import Derived.Test.YtedmhejnbapklabDoorLPK
import Derived.Test.YtedmhejnbapklabDoorPicked
import Derived.Test.YtedmhejnbapklabDoorKeyO
import Derived.Test.YtedmhejnbapklabDoorPart4
import Derived.Deep.RegionLaw
namespace Go.Proofs.YtedmhejnbapklabDoor
open Go.RowKit
def flipS (s : Stp) : Stp := ⟨s.bit, !s.right, s.other⟩
theorem may_steps {k : List UInt8} {p : Prf} (h : May k p) (he : p.empty = false) : ∀ i, i < p.steps.length → StepMay k p.pair.1 p.steps i := by
  rcases h with ⟨h, _⟩ | ⟨_, _, h⟩
  · rw [he] at h; cases h
  · exact h
theorem flip_form {k : List UInt8} {p : Prf} (hk : keyFaultF k.length = 0) (hm : May k p) (he : p.empty = false) (i : Nat) (hi : i < p.steps.length) : proofE k ⟨false, p.steps.set i (flipS (p.steps.getD i noStp)), p.pair⟩ = 4 := by
  refine proofE_not hk fun hm' => ?_
  have h1 := may_steps hm he i hi
  have h2 := may_steps hm' rfl i (by simpa using hi)
  have e : (p.steps.set i (flipS (p.steps.getD i noStp))).getD i noStp = flipS (p.steps.getD i noStp) := by simp [hi]
  have a := h1.2.2.2.1
  have b := h2.2.2.2.1
  dsimp only at b
  rw [e] at b
  simp only [flipS] at b
  rw [a] at b
  cases hr : (p.steps.getD i noStp).right <;> rw [hr] at b <;> cases b
theorem bits_rise {k q : List UInt8} {l : List Stp} (h : ∀ i, i < l.length → StepMay k q l i) : ∀ j i, i ≤ j → j < l.length → (l.getD i noStp).bit ≤ (l.getD j noStp).bit
  | 0, i, hij, hj => by obtain rfl : i = 0 := by omega
                        exact Int.le_refl _
  | j + 1, i, hij, hj => by
    by_cases e : i = j + 1
    · subst e; exact Int.le_refl _
    · have h1 := bits_rise h j i (by omega) (by omega)
      have h2 := (h (j + 1) hj).2.2.1 (by omega)
      rw [Nat.add_sub_cancel] at h2
      omega
theorem again_form {k : List UInt8} {p : Prf} (hk : keyFaultF k.length = 0) (hm : May k p) (he : p.empty = false) (i : Nat) (hi : i < p.steps.length) : proofE k ⟨false, p.steps ++ [p.steps.getD i noStp], p.pair⟩ = 4 := by
  refine proofE_not hk fun hm' => ?_
  have h2 := (may_steps hm' rfl p.steps.length (by simp)).2.2.1 (by omega)
  dsimp only at h2
  have e1 : (p.steps ++ [p.steps.getD i noStp]).getD p.steps.length noStp = p.steps.getD i noStp := by simp
  have e2 : (p.steps ++ [p.steps.getD i noStp]).getD (p.steps.length - 1) noStp = p.steps.getD (p.steps.length - 1) noStp := by
    simp [List.getElem?_append, show p.steps.length - 1 < p.steps.length by omega]
  rw [e1, e2] at h2
  have := bits_rise (may_steps hm he) (p.steps.length - 1) i (by omega) (by omega)
  omega
theorem fits_flip {p : Prf} (h : PrfFits p) (i : Nat) (hi : i < p.steps.length) : PrfFits ⟨false, p.steps.set i (flipS (p.steps.getD i noStp)), p.pair⟩ := by
  refine ⟨by simpa using h.1, fun j hj => ?_, h.2.2.1, h.2.2.2⟩
  have hj' : j < p.steps.length := by simpa using hj
  dsimp only
  by_cases e : j = i
  · subst e
    rw [show (p.steps.set j (flipS (p.steps.getD j noStp))).getD j noStp = flipS (p.steps.getD j noStp) by simp [hj']]
    exact h.2.1 j hj'
  · rw [show (p.steps.set i (flipS (p.steps.getD i noStp))).getD j noStp = p.steps.getD j noStp by simp [Ne.symm e]]
    exact h.2.1 j hj'
theorem fits_again {p : Prf} (h : PrfFits p) (hs : p.steps.length ≤ 1000) (i : Nat) (hi : i < p.steps.length) : PrfFits ⟨false, p.steps ++ [p.steps.getD i noStp], p.pair⟩ := by
  refine ⟨by simp; omega, fun j hj => ?_, h.2.2.1, h.2.2.2⟩
  dsimp only
  by_cases e : j < p.steps.length
  · rw [show (p.steps ++ [p.steps.getD i noStp]).getD j noStp = p.steps.getD j noStp by simp [List.getElem?_append, e]]
    exact h.2.1 j e
  · obtain rfl : j = p.steps.length := by simp at hj; omega
    rw [show (p.steps ++ [p.steps.getD i noStp]).getD p.steps.length noStp = p.steps.getD i noStp by simp]
    exact h.2.1 i hi
theorem prove_few {l : PL} (hT : Tree l) (k : List UInt8) : (proveL l k).steps.length = 0 ↔ l.length < 2 := by
  unfold proveL
  by_cases h : l.length = 0
  · rw [if_pos h]; simp; omega
  · rw [if_neg h]
    by_cases h2 : l.length < 2
    · rw [(steps_few l k h2).1]; simp; omega
    · rw [(steps_more k hT (by omega)).1]; simp; omega
set_option maxRecDepth 100000 in
set_option maxHeartbeats 2000000 in
theorem proofForm_walk (hM : KMakeOK) (hP : PProveOK) (hV : PVerifyOK) (hC : PCheckOK) (w : World) (v u : Value) (at_ : Int) (l : PL) (kb : List UInt8) (hv : PairsIs w v l) (hu : SliceIs w u kb) (hl : Fits l) (hkl : kb.length ≤ maxLen) (ha0 : -9223372036854775808 ≤ at_) (ha1 : at_ ≤ 9223372036854775807) (ht : Tabs w) :
    Calls Tryd.prog 4 #[v, u, .int .i64 at_] w fun e w' => e = .returned (.bool true) ∧ w.grownBy w' none := by
  have hT := mkT_tree l 20 (by omega)
  have hK := keyF_len kb
  have HM : Hid (Calls Tryd.prog 6 #[v, .int .i64 20] w fun e w' => ∃ v', e = .returned v' ∧ OwnP w.heap.size w' v' (mkT (l.take 20)) ∧ w.grownBy w' none) := hM w v l 20 hv hl (by omega)
  have HK : Hid (∀ w', w.grownBy w' none → Calls Tryd.prog 7 #[u] w' fun e w'' => ∃ v', e = .returned v' ∧ PartS w'' v' (keyF kb) ∧ w'.grownBy w'' none) := fun w' hg => (keyO_any w' u kb (hu.grown hg) hkl).mono fun _ _ ⟨v', h1, h2, h3⟩ => ⟨v', h1, h2.partS, h3⟩
  generalize mkT (l.take 20) = PS at *
  generalize keyF kb = K at *
  have hfit := prove_fits hT K
  have hmay := prove_may hT K
  have hemp := prove_empty PS K
  have hfew := prove_few hT K
  have hslen : (proveL PS K).steps.length ≤ 60 := by
    have h60 := hT.room
    unfold proveL
    by_cases h : PS.length = 0
    · rw [if_pos h]; simp
    · rw [if_neg h]; have := steps_len K hT (by omega); simp; omega
  have hkf := (keyFault_iff _).2 hK
  have HP : Hid (∀ w' v' u', w.grownBy w' none → PairsIs w' v' PS → SliceIs w' u' K → Calls Tryd.prog 9 #[v', u'] w' fun e w'' => ∃ sa sc ka kc va vc, e = .returned (.tuple #[.agg #[.bool (proveL PS K).empty, .slice sa (proveL PS K).steps.length sc, .slice ka (proveL PS K).pair.1.length kc, .slice va (proveL PS K).pair.2.length vc], .int .i64 0]) ∧ ProofNew w'.heap.size w'' (.agg #[.bool (proveL PS K).empty, .slice sa (proveL PS K).steps.length sc, .slice ka (proveL PS K).pair.1.length kc, .slice va (proveL PS K).pair.2.length vc]) (proveL PS K) ∧ w'.grownBy w'' none) := fun w' v' u' hg h1 h2 => PProveOK.of hP w' v' u' PS K h1 h2 hT hK (ht.grownNone hg)
  have HV : Hid (∀ w' u' x', w.grownBy w' none → SliceIs w' u' K → ProofIs w' x' (proveL PS K) → Calls Tryd.prog 10 #[.slice none 0 0, u', x'] w' fun e w'' => ∃ xa xc, e = .returned (.tuple #[.agg #[.bool false, .slice xa 0 xc], .int .i64 1]) ∧ SliceIs w'' (.slice xa 0 xc) [] ∧ w'.grownBy w'' none) := fun w' u' x' hg h2 h3 => by
    obtain ⟨e1, e2, e3⟩ := ver_size (root := []) (k := K) (p := proveL PS K) (by simp)
    exact PVerifyOK.of hV w' _ u' x' [] K _ 1 false [] (sliceIs_nil _) h2 h3 hfit (ht.grownNone hg) e1 e2 e3
  by_cases hs0 : (proveL PS K).steps.length = 0
  · have h2 := hfew.1 hs0
    have t2 : (PS.length : Int) < 2 := by omega
    rw [hs0] at HP
    generalize proveL PS K = PF at *
    generalize PF.empty = EB at *
    generalize PF.pair.1.length = n2 at *
    generalize PF.pair.2.length = n3 at *
    clear hM hP hV hC hv hu hl hkl ht hT hK hfit hmay hemp hfew hslen hkf ha0 ha1 hs0 h2
    go_enter Tryd.func4, Tryd.ntmps4
    go_wp2_with fail
    refine HM.out.mono ?_
    rintro e w1 ⟨v1, rfl, ho1, hg1⟩
    obtain ⟨pa, pc, rfl⟩ := ho1.shape
    have HL : Hid (PairsIs w1 (.slice pa PS.length pc) PS) := ho1.list
    clear ho1
    go_wp2_with fail
    refine (HK.out _ hg1).mono ?_
    rintro e w2 ⟨v2, rfl, hk2, hg2⟩
    obtain ⟨ka, kc, rfl⟩ := hk2.1.shape
    have hg02 := grown_trans hg1 hg2
    have HKP : Hid (PartS w2 (.slice ka K.length kc) K) := hk2
    have HKY : Hid (SliceIs w2 (.slice ka K.length kc) K) := hk2.1
    clear hk2
    go_wp2_with fail
    refine (HP.out _ _ _ hg02 (HL.out.grown hg2) HKY.out).mono ?_
    rintro e w4 ⟨sa, sc, qa, qc, va, vc, rfl, hp4, hg4⟩
    have hg04 := grown_trans hg02 hg4
    have hga4 := World.grownBy_alloc w4 (.cells #[.bool EB, .slice sa 0 sc, .slice qa n2 qc, .slice va n3 vc] 34) none
    have HPF : Hid (ProofIs (w4.alloc (.cells #[.bool EB, .slice sa 0 sc, .slice qa n2 qc, .slice va n3 vc] 34)) (.agg #[.bool EB, .slice sa 0 sc, .slice qa n2 qc, .slice va n3 vc]) PF) := hp4.is.grown hga4
    obtain ⟨⟨y0, y1, y2, y3⟩, _⟩ := quad_room (grown_refl _ none) (heap_alloc_new w4 (.cells #[.bool EB, .slice sa 0 sc, .slice qa n2 qc, .slice va n3 vc] 34))
    have hg4a := grown_trans hg4 hga4
    have hg04a := grown_trans hg04 hga4
    clear hp4
    go_wp2_with fail
    refine (HV.out _ _ _ hg04a (HKY.out.grown hg4a) HPF.out).mono ?_
    rintro e w5 ⟨xa, xc, rfl, _, hg5⟩
    have hga5 := World.grownBy_alloc w5 (.cells #[.bool false, .slice xa 0 xc] 38) none
    have z1 := (grown_trans hg5 hga5).cell y1 (by simp)
    go_wp2
    go_ret
    exact ⟨rfl, grown_trans hg04a (grown_trans hg5 hga5)⟩
  · have heF : (proveL PS K).empty = false := by
      rw [hemp]
      have : ¬ PS.length < 2 := fun h => hs0 (hfew.2 h)
      exact decide_eq_false (by omega)
    have PK : Hid (∀ w' : World, Calls Tryd.prog 14 #[.int .i64 at_, .int .i64 ((proveL PS K).steps.length : Int)] w' fun e w'' => ∃ k : Nat, e = .returned (.int .i64 (k : Int)) ∧ (k : Int) < ((proveL PS K).steps.length : Int) ∧ w'' = w') := fun w' => picked_any at_ _ w' ha0 ha1 (by omega) (by omega)
    have HF1 : Hid (∀ (w' : World) (u' x' : Value) (i : Nat), i < (proveL PS K).steps.length → SliceIs w' u' K → ProofIs w' x' ⟨false, (proveL PS K).steps.set i (flipS ((proveL PS K).steps.getD i noStp)), (proveL PS K).pair⟩ → Calls Tryd.prog 12 #[u', x'] w' fun e w'' => e = .returned (.int .i64 4) ∧ w'.grownBy w'' none) := fun w' u' x' i hi h1 h2 => by
      have := hC w' u' x' K _ h1 h2 (fits_flip hfit i hi)
      rw [flip_form hkf hmay heF i hi] at this
      exact this
    have HF2 : Hid (∀ (w' : World) (u' x' : Value) (i : Nat), i < (proveL PS K).steps.length → SliceIs w' u' K → ProofIs w' x' ⟨false, (proveL PS K).steps ++ [(proveL PS K).steps.getD i noStp], (proveL PS K).pair⟩ → Calls Tryd.prog 12 #[u', x'] w' fun e w'' => e = .returned (.int .i64 4) ∧ w'.grownBy w'' none) := fun w' u' x' i hi h1 h2 => by
      have := hC w' u' x' K _ h1 h2 (fits_again hfit (by omega) i hi)
      rw [again_form hkf hmay heF i hi] at this
      exact this
    rw [heF] at HP
    have hS0 : (((proveL PS K).steps.length : Int) == 0) = false := by rw [beq_eq_false_iff_ne]; omega
    have hSp : 0 < (proveL PS K).steps.length := by omega
    generalize proveL PS K = PF at *
    generalize hSS : PF.steps = S at *
    generalize hN : S.length = N at *
    have HN : Hid (S.length = N) := hN
    have HSS : Hid (PF.steps = S) := hSS
    clear hN hSS
    generalize PF.pair.1.length = n2 at *
    generalize PF.pair.2.length = n3 at *
    clear hM hP hV hC hv hu hl hkl ht hT hK hfit hmay hemp hfew hkf ha0 ha1 hs0 heF
    go_enter Tryd.func4, Tryd.ntmps4
    go_wp2_with fail
    refine HM.out.mono ?_
    rintro e w1 ⟨v1, rfl, ho1, hg1⟩
    obtain ⟨pa, pc, rfl⟩ := ho1.shape
    have HL : Hid (PairsIs w1 (.slice pa PS.length pc) PS) := ho1.list
    clear ho1
    go_wp2_with fail
    refine (HK.out _ hg1).mono ?_
    rintro e w2 ⟨v2, rfl, hk2, hg2⟩
    obtain ⟨ka, kc, rfl⟩ := hk2.1.shape
    have hg02 := grown_trans hg1 hg2
    have HKP : Hid (PartS w2 (.slice ka K.length kc) K) := hk2
    have HKY : Hid (SliceIs w2 (.slice ka K.length kc) K) := hk2.1
    clear hk2
    go_wp2_with fail
    refine (HP.out _ _ _ hg02 (HL.out.grown hg2) HKY.out).mono ?_
    rintro e w4 ⟨sa, sc, qa, qc, va, vc, rfl, hp4, hg4⟩
    have hg04 := grown_trans hg02 hg4
    have HIS := hp4.is
    obtain ⟨base, _, _, _, e, hb1, hb2, hoS, hpk, hpv⟩ := hp4
    simp only [Value.agg.injEq, Array.mk.injEq, List.cons.injEq, and_true] at e
    obtain ⟨hx0, rfl, rfl, rfl⟩ := e
    clear hx0
    rw [HSS.out] at hoS
    obtain ⟨g, cap, e, hbg, hNB, hfz⟩ := hoS.cases (by rw [HN.out]; exact hSp)
    rw [HN.out] at e
    cases e
    have hga4 := World.grownBy_alloc w4 (.cells #[.bool false, .slice (some ⟨g, 0, none⟩) N sc, .slice qa n2 qc, .slice va n3 vc] 34) none
    have HPF : Hid (ProofIs (w4.alloc (.cells #[.bool false, .slice (some ⟨g, 0, none⟩) N sc, .slice qa n2 qc, .slice va n3 vc] 34)) (.agg #[.bool false, .slice (some ⟨g, 0, none⟩) N sc, .slice qa n2 qc, .slice va n3 vc]) PF) := HIS.grown hga4
    have hbq := heap_alloc_new w4 (.cells #[.bool false, .slice (some ⟨g, 0, none⟩) N sc, .slice qa n2 qc, .slice va n3 vc] 34)
    obtain ⟨⟨y0, y1, y2, y3⟩, _⟩ := quad_room (grown_refl _ none) hbq
    have hg4a := grown_trans hg4 hga4
    have hg04a := grown_trans hg04 hga4
    have hgl : g < w4.heap.size := (hoS.lt g rfl).2
    have HOS : Hid (OwnS base w4 (.slice (some ⟨g, 0, none⟩) N sc) S) := hoS
    have HPK : Hid (PartS w4 (.slice qa n2 qc) PF.pair.1) := hpk
    have HPV : Hid (PartS w4 (.slice va n3 vc) PF.pair.2) := hpv
    have HBQ : Hid ((w4.alloc (.cells #[.bool false, .slice (some ⟨g, 0, none⟩) N sc, .slice qa n2 qc, .slice va n3 vc] 34)).heap[w4.heap.size]? = some (.cells #[.bool false, .slice (some ⟨g, 0, none⟩) N sc, .slice qa n2 qc, .slice va n3 vc] 34)) := hbq
    have hgne : w4.heap.size ≠ g := by omega
    clear HIS hoS hpk hpv hbq hNB hfz
    go_wp2_with fail
    refine (HV.out _ _ _ hg04a (HKY.out.grown hg4a) HPF.out).mono ?_
    rintro e w5 ⟨xa, xc, rfl, _, hg5⟩
    have hga5 := World.grownBy_alloc w5 (.cells #[.bool false, .slice xa 0 xc] 38) none
    have hg5a := grown_trans hg5 hga5
    obtain ⟨W6, hW6⟩ : ∃ W6 : World, W6 = w5.alloc (.cells #[.bool false, .slice xa 0 xc] 38) := ⟨_, rfl⟩
    rw [← hW6] at hga5 hg5a
    have HW6 : Hid (W6 = w5.alloc (.cells #[.bool false, .slice xa 0 xc] 38)) := hW6
    have z1' : (w5.alloc (.cells #[.bool false, .slice xa 0 xc] 38)).cell? ⟨w4.heap.size, 1, none⟩ = some (.slice (some ⟨g, 0, none⟩) N sc) := by rw [← hW6]; exact hg5a.cell y1 (by simp)
    have HO6 : Hid (OwnS base W6 (.slice (some ⟨g, 0, none⟩) N sc) S) := HOS.out.grownNone (grown_trans hga4 hg5a)
    have HK6 : Hid (PartS W6 (.slice qa n2 qc) PF.pair.1) := HPK.out.grown (grown_trans hga4 hg5a)
    have HV6 : Hid (PartS W6 (.slice va n3 vc) PF.pair.2) := HPV.out.grown (grown_trans hga4 hg5a)
    have HB6 : Hid (W6.heap[w4.heap.size]? = some (.cells #[.bool false, .slice (some ⟨g, 0, none⟩) N sc, .slice qa n2 qc, .slice va n3 vc] 34)) := pair_old hg5a HBQ.out
    have HY6 : Hid (PartS W6 (.slice ka K.length kc) K) := HKP.out.grown (grown_trans hg4a hg5a)
    have hgw6 : w.grownBy W6 none := grown_trans hg04a hg5a
    have hwb : w.heap.size ≤ base := Nat.le_trans hg02.size hb1
    clear hW6 y0 y1 y2 y3 HOS HPK HPV HBQ HPF HKY HV HP HK HM hg5 hga5 hg5a hga4 hg04 hg04a hg4a hg4 HL hg2 hg02 hg1
    go_wp2_with fail
    rw [← HW6.out]
    refine (PK.out W6).mono ?_
    rintro e w7 ⟨i, rfl, hiN, rfl⟩
    have hi : i < N := by omega
    have hNB := HO6.out.notB
    obtain ⟨vo, c0, c1, c2, _⟩ := HO6.out.stepAt i (by rw [HN.out]; exact hi)
    have f1 := HO6.out.frozen (i * 3 + 1)
    obtain ⟨⟨q0, q1, q2, q3⟩, _⟩ := quad_room (grown_refl w7 none) HB6.out
    have HO7 : Hid (OwnS base (w7.setCell ⟨g, i * 3 + 1, none⟩ (.bool (!(S.getD i noStp).right))) (.slice (some ⟨g, 0, none⟩) N sc) (S.set i (flipS (S.getD i noStp)))) := HO6.out.setRight i (by rw [HN.out]; exact hi) _
    have HNB : Hid (NotB w7 g) := hNB
    have HK7 : Hid (PartS (w7.setCell ⟨g, i * 3 + 1, none⟩ (.bool (!(S.getD i noStp).right))) (.slice qa n2 qc) PF.pair.1) := HK6.out.set hNB _ _
    have HV7 : Hid (PartS (w7.setCell ⟨g, i * 3 + 1, none⟩ (.bool (!(S.getD i noStp).right))) (.slice va n3 vc) PF.pair.2) := HV6.out.set hNB _ _
    have HB7 : Hid ((w7.setCell ⟨g, i * 3 + 1, none⟩ (.bool (!(S.getD i noStp).right))).heap[w4.heap.size]? = some (.cells #[.bool false, .slice (some ⟨g, 0, none⟩) N sc, .slice qa n2 qc, .slice va n3 vc] 34)) := set_other_block HB6.out hgne
    have hg7 : w.grownBy (w7.setCell ⟨g, i * 3 + 1, none⟩ (.bool (!(S.getD i noStp).right))) none := grown_setNew hgw6 _ (by omega) _ _
    have HY7 : Hid (PartS (w7.setCell ⟨g, i * 3 + 1, none⟩ (.bool (!(S.getD i noStp).right))) (.slice ka K.length kc) K) := HY6.out.set hNB _ _
    have HF1i : Hid (∀ (w' : World) (u' x' : Value), SliceIs w' u' K → ProofIs w' x' ⟨false, S.set i (flipS (S.getD i noStp)), PF.pair⟩ → Calls Tryd.prog 12 #[u', x'] w' fun e w'' => e = .returned (.int .i64 4) ∧ w'.grownBy w'' none) := fun w' u' x' h1 h2 => HF1.out w' u' x' i hi h1 h2
    have HF2i : Hid (∀ (w' : World) (u' x' : Value), SliceIs w' u' K → ProofIs w' x' ⟨false, S ++ [S.getD i noStp], PF.pair⟩ → Calls Tryd.prog 12 #[u', x'] w' fun e w'' => e = .returned (.int .i64 4) ∧ w'.grownBy w'' none) := fun w' u' x' h1 h2 => HF2.out w' u' x' i hi h1 h2
    have hiS : i < S.length := by rw [HN.out]; exact hi
    have HBK : Hid ((S.set i (flipS (S.getD i noStp))).set i ⟨((S.set i (flipS (S.getD i noStp))).getD i noStp).bit, (S.getD i noStp).right, ((S.set i (flipS (S.getD i noStp))).getD i noStp).other⟩ = S) := by
      show _ = _
      rw [show (S.set i (flipS (S.getD i noStp))).getD i noStp = flipS (S.getD i noStp) by simp [hiS], List.set_set]
      simp only [flipS]
      rw [show (⟨(S.getD i noStp).bit, (S.getD i noStp).right, (S.getD i noStp).other⟩ : Stp) = S[i] by simp [hiS]]
      exact List.set_getElem_self hiS
    have HLF : Hid ((S.set i (flipS (S.getD i noStp))).length = S.length) := by
      show _ = _
      simp
    have HGF : Hid ((S.set i (flipS (S.getD i noStp))).getD i noStp = flipS (S.getD i noStp)) := by
      show _ = _
      simp [hiS]
    have HGS : Hid (S.getD i noStp = S.getD i noStp) := rfl
    generalize hst : S.getD i noStp = st at *
    have HST : Hid (S.getD i noStp = st) := hst
    clear hst hiS HF1 HF2 PK
    go_wp2_with fail
    go_region
    generalize (w7.setCell ⟨g, i * 3 + 1, none⟩ (.bool (!st.right))) = W8 at *
    have hgd8 := grown_drew (grown_refl W8 none)
    obtain ⟨⟨r0, r1, r2, r3⟩, _⟩ := quad_room (grown_refl W8 none) HB7.out
    clear q0 q1 q2 q3 c0 c1 c2 f1 z1'
    go_wp2_with fail
    refine (HF1i.out _ _ _ (HY7.out.1.grown hgd8) ⟨_, _, _, rfl, HO7.out.list.grown hgd8, HK7.out.1.grown hgd8, HV7.out.1.grown hgd8⟩).mono ?_
    rintro e w9 ⟨rfl, hg9⟩
    have hg89 := grown_trans hgd8 hg9
    have HO9 : Hid (OwnS base w9 (.slice (some ⟨g, 0, none⟩) N sc) (S.set i (flipS st))) := HO7.out.grownNone hg89
    have HK9 : Hid (PartS w9 (.slice qa n2 qc) PF.pair.1) := HK7.out.grown hg89
    have HV9 : Hid (PartS w9 (.slice va n3 vc) PF.pair.2) := HV7.out.grown hg89
    have HY9 : Hid (PartS w9 (.slice ka K.length kc) K) := HY7.out.grown hg89
    have HB9 : Hid (w9.heap[w4.heap.size]? = some (.cells #[.bool false, .slice (some ⟨g, 0, none⟩) N sc, .slice qa n2 qc, .slice va n3 vc] 34)) := pair_old hg89 HB7.out
    have hgw9 := grown_trans hg7 hg89
    obtain ⟨⟨q0, q1, q2, q3⟩, _⟩ := quad_room (grown_refl w9 none) HB9.out
    obtain ⟨vo9, c0, c1, c2, _⟩ := HO9.out.stepAt i (by rw [HLF.out, HN.out]; exact hi)
    have f1 := HO9.out.frozen (i * 3 + 1)
    have hNB9 := HO9.out.notB
    rw [HGF.out] at c0 c1
    simp only [flipS] at c0 c1
    have HO10 : Hid (OwnS base (w9.setCell ⟨g, i * 3 + 1, none⟩ (.bool st.right)) (.slice (some ⟨g, 0, none⟩) N sc) S) := by
      have := HO9.out.setRight i (by rw [HLF.out, HN.out]; exact hi) st.right
      rw [HBK.out] at this
      exact this
    have HK10 : Hid (PartS (w9.setCell ⟨g, i * 3 + 1, none⟩ (.bool st.right)) (.slice qa n2 qc) PF.pair.1) := HK9.out.set hNB9 _ _
    have HV10 : Hid (PartS (w9.setCell ⟨g, i * 3 + 1, none⟩ (.bool st.right)) (.slice va n3 vc) PF.pair.2) := HV9.out.set hNB9 _ _
    have HY10 : Hid (PartS (w9.setCell ⟨g, i * 3 + 1, none⟩ (.bool st.right)) (.slice ka K.length kc) K) := HY9.out.set hNB9 _ _
    have HB10 : Hid ((w9.setCell ⟨g, i * 3 + 1, none⟩ (.bool st.right)).heap[w4.heap.size]? = some (.cells #[.bool false, .slice (some ⟨g, 0, none⟩) N sc, .slice qa n2 qc, .slice va n3 vc] 34)) := set_other_block HB9.out hgne
    have hgw10 : w.grownBy (w9.setCell ⟨g, i * 3 + 1, none⟩ (.bool st.right)) none := grown_setNew hgw9 _ (by omega) _ _
    clear HO7 HK7 HV7 HY7 HB7 HF1i r0 r1 r2 r3 hNB HNB HO6 HK6 HV6 HY6 HB6 hgd8 hg89 hg9
    go_wp2_with fail
    go_region
    generalize (w9.setCell ⟨g, i * 3 + 1, none⟩ (.bool st.right)) = W10 at *
    have hgd10 := grown_drew (grown_refl W10 none)
    have HOV : Hid (OwnS base W10.drew (.slice (some ⟨g, 0, none⟩) N sc) S) := HO10.out.grownNone hgd10
    have HKV : Hid (PartS W10.drew (.slice qa n2 qc) PF.pair.1) := HK10.out.grown hgd10
    have HVV : Hid (PartS W10.drew (.slice va n3 vc) PF.pair.2) := HV10.out.grown hgd10
    have HYV : Hid (PartS W10.drew (.slice ka K.length kc) K) := HY10.out.grown hgd10
    have HBV : Hid (W10.drew.heap[w4.heap.size]? = some (.cells #[.bool false, .slice (some ⟨g, 0, none⟩) N sc, .slice qa n2 qc, .slice va n3 vc] 34)) := pair_old hgd10 HB10.out
    have hgwV := grown_trans hgw10 hgd10
    clear HO9 HK9 HV9 HY9 HB9 HO10 HK10 HV10 HY10 HB10 q0 q1 q2 q3 c0 c1 c2 f1 hNB9 hgd10 hgw10
    go_wp2_with fail
    generalize W10.drew = V at *
    have hgd := grown_drew (grown_refl V none)
    obtain ⟨vo, d0, d1, d2, hvo⟩ := HOV.out.stepAt i (by rw [HN.out]; exact hi)
    rw [HST.out] at d0 d1 hvo
    obtain ⟨oa, oc, rfl⟩ := hvo.1.shape
    obtain ⟨⟨q0, q1, q2, q3⟩, g0, g1, g2, g3, _⟩ := quad_room (grown_refl V none) HBV.out
    have hga : V.grownBy (V.drew.alloc (.cells #[.int .i64 st.bit, .bool st.right, .slice oa st.other.length oc] 47)) none := grown_alloc (grown_drew (grown_refl V none)) _
    have HOA : Hid (OwnS base (V.drew.alloc (.cells #[.int .i64 st.bit, .bool st.right, .slice oa st.other.length oc] 47)) (.slice (some ⟨g, 0, none⟩) N sc) S) := HOV.out.grownNone hga
    have HPA : Hid (PartS (V.drew.alloc (.cells #[.int .i64 st.bit, .bool st.right, .slice oa st.other.length oc] 47)) (.slice oa st.other.length oc) st.other) := hvo.grown hga
    have HNA : Hid ((V.drew.alloc (.cells #[.int .i64 st.bit, .bool st.right, .slice oa st.other.length oc] 47)).heap[V.heap.size]? = some (.cells #[.int .i64 st.bit, .bool st.right, .slice oa st.other.length oc] 47)) := heap_alloc_new V.drew _
    have HSA : Hid (base ≤ (V.drew.alloc (.cells #[.int .i64 st.bit, .bool st.right, .slice oa st.other.length oc] 47)).heap.size) := by
      have h1 := hga.size
      have h2 := (HOV.out.lt g rfl)
      show _ ≤ _
      omega
    have HKA : Hid (PartS (V.drew.alloc (.cells #[.int .i64 st.bit, .bool st.right, .slice oa st.other.length oc] 47)) (.slice qa n2 qc) PF.pair.1) := HKV.out.grown hga
    have HVA : Hid (PartS (V.drew.alloc (.cells #[.int .i64 st.bit, .bool st.right, .slice oa st.other.length oc] 47)) (.slice va n3 vc) PF.pair.2) := HVV.out.grown hga
    have HYA : Hid (PartS (V.drew.alloc (.cells #[.int .i64 st.bit, .bool st.right, .slice oa st.other.length oc] 47)) (.slice ka K.length kc) K) := HYV.out.grown hga
    have HBA : Hid ((V.drew.alloc (.cells #[.int .i64 st.bit, .bool st.right, .slice oa st.other.length oc] 47)).heap[w4.heap.size]? = some (.cells #[.bool false, .slice (some ⟨g, 0, none⟩) N sc, .slice qa n2 qc, .slice va n3 vc] 34)) := pair_old hga HBV.out
    have hgwA := grown_trans hgwV hga
    have hNl : (S.length + 1) * 40 ≤ 140737488355328 := by rw [HN.out]; omega
    have HNl : Hid ((S.length + 1) * 40 ≤ 140737488355328) := hNl
    have hNR : ∀ b, (b < base ∨ (V.drew.alloc (.cells #[.int .i64 st.bit, .bool st.right, .slice oa st.other.length oc] 47)).heap.size ≤ b) → (Value.slice (some ⟨g, 0, none⟩) N sc).ownBlock ≠ some b := fun b hb => HOA.out.notRow hb
    have HRow : Hid (RowS (V.drew.alloc (.cells #[.int .i64 st.bit, .bool st.right, .slice oa st.other.length oc] 47)) (Value.slice (some ⟨g, 0, none⟩) N sc).ownBlock) := HOA.out.row
    have e0 : V.drew.cell? ⟨w4.heap.size, 1, none⟩ = some (.slice (some ⟨g, 0, none⟩) N sc) := q1
    have e1 : V.drew.cell? ⟨g, i * 3, none⟩ = some (.int .i64 st.bit) := d0
    have e2 : V.drew.cell? ⟨g, i * 3 + 1, none⟩ = some (.bool st.right) := d1
    have e3 : V.drew.cell? ⟨g, i * 3 + 2, none⟩ = some (.slice oa st.other.length oc) := d2
    have k0 := hga.cell q1 (by simp)
    have k1 := hga.cell d0 (by simp)
    have k2 := hga.cell d1 (by simp)
    have k3 := hga.cell d2 (by simp)
    have kk0 : (V.alloc (.cells #[.int .i64 st.bit, .bool st.right, .slice oa st.other.length oc] 47)).cell? ⟨w4.heap.size, 1, none⟩ = some (.slice (some ⟨g, 0, none⟩) N sc) := k0
    clear HOV HKV HVV HYV HBV hvo hNl hNR
    go_region_law (refine step_append_step (by rfl) _ _ (by rfl) base (.slice (some ⟨g, 0, none⟩) N sc) S (by rfl) HOA.out (.slice oa st.other.length oc) st HPA.out V.heap.size (step_news HNA.out) (by rfl) HNl.out HSA.out ?_; intro v11 w11 ho11 hg11; obtain ⟨ta, tc, rfl⟩ := ho11.shape; have hb11 := row_block hg11 HBA.out (fun e => hgne (by simpa [Value.ownBlock] using e.symm)); obtain ⟨⟨l0, l1, l2, l3⟩, m0, m1, m2, m3, _⟩ := quad_room (grown_refl w11 none) hb11)
    all_goals
      have hNP : NotB w11 w4.heap.size := notB_of (xs := [.slice (some ⟨g, 0, none⟩) N sc, .slice qa n2 qc, .slice va n3 vc]) hb11 proofT (fun q => by simp)
      have hne11 := ho11.neBlock hb11 (by decide)
      have hb12 := quad_second hb11 (.slice ta (S.length + 1) tc)
      obtain ⟨⟨p0, p1, p2, p3⟩, _⟩ := quad_room (grown_refl _ none) hb12
      have hg11w : w.grownBy w11 none := grown_ownS hgwA HOA.out hwb hg11
      have hq4 : w.heap.size ≤ w4.heap.size := by omega
      have hg12 : w.grownBy (w11.setCell ⟨w4.heap.size, 1, none⟩ (.slice ta (S.length + 1) tc)) none := grown_setNew hg11w _ hq4 _ _
      have hl12 : (S ++ [st]).length = S.length + 1 := by simp
      rw [hl12] at ho11 hne11
      have HPZ : Hid (ProofIs (w11.setCell ⟨w4.heap.size, 1, none⟩ (.slice ta (S.length + 1) tc)) (.agg #[.bool false, .slice ta (S.length + 1) tc, .slice qa n2 qc, .slice va n3 vc]) ⟨false, S ++ [st], PF.pair⟩) := ⟨_, _, _, rfl, (ho11.setNe hNP hne11 _ _).list, ((HKA.out.kept hg11 HRow.out).set hNP _ _).1, ((HVA.out.kept hg11 HRow.out).set hNP _ _).1⟩
      have HYZ : Hid (SliceIs (w11.setCell ⟨w4.heap.size, 1, none⟩ (.slice ta (S.length + 1) tc)) (.slice ka K.length kc) K) := ((HYA.out.kept hg11 HRow.out).set hNP _ _).1
      generalize w11.setCell ⟨w4.heap.size, 1, none⟩ (.slice ta (S.length + 1) tc) = W12 at *
      clear hNP hne11 hb12 hb11 l0 l1 l2 l3 m0 m1 m2 m3 ho11 hg11 hg11w hl12
      go_wp2_with fail
      refine (HF2i.out _ _ _ HYZ.out HPZ.out).mono ?_
      rintro e w13 ⟨rfl, hg13⟩
      go_wp2
      go_ret
      exact ⟨rfl, grown_trans hg12 hg13⟩
end Go.Proofs.YtedmhejnbapklabDoor
