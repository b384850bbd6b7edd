/-
  The walk of the document's answer to P5.4: written.
-/
import Derived.Test.YtljdconhplgipaaWrMem
import Derived.Test.YtljdconhplgipaaPart13
import Derived.Test.YtljdconhplgipaaRPutQ
import Derived.Test.YtljdconhplgipaaRDelQ
import Derived.Test.YtljdconhplgipaaPart14
import Derived.Test.YtljdconhplgipaaRJoined
import Derived.Deep.RegionHeld3
import Derived.Deep.RegionWith
import Derived.Handy
namespace Go.Proofs.Ytljdconhplgipaa
open Go.RowKit
theorem t_fold_done (p : Tn) (l : FL) : ∀ out : FL, l.foldl (t_putStep p) (out, true) = (out ++ t_delL l p.1, true) := by
  induction l with
  | nil => intro out; simp [t_delL]
  | cons q r ih =>
    intro out
    rw [List.foldl_cons]
    by_cases e : q.1 = p.1
    · rw [show t_putStep p (out, true) q = (out, true) by simp [t_putStep, e], ih]
      simp [t_delL, e]
    · rw [show t_putStep p (out, true) q = (out ++ [q], true) by simp [t_putStep, e], ih]
      simp [t_delL, e]
theorem t_written (l : FL) (w : Plc) (h : t_Rises l) : t_putEnd (w.name, nextL l w) (l.foldl (t_putStep (w.name, nextL l w)) ([], decide ((nextL l w).length = 0))) = writtenL l w := by
  unfold writtenL
  by_cases h0 : (nextL l w).length = 0
  · rw [if_pos h0, decide_eq_true h0, t_fold_done]
    simp [t_putEnd]
  · rw [if_neg h0, decide_eq_false h0]
    have := t_put_fold (w.name, nextL l w) l h []
    rw [List.nil_append] at this
    exact this
theorem next_len60 {l : FL} (h : Forest l) {w : Plc} (hw : writeE w = 0) (he : nextE l w = 0) : (nextL l w).length ≤ 60 := (next_tree h hw he).room
set_option maxRecDepth 100000 in
set_option maxHeartbeats 4000000 in
theorem written_any (w : World) (v u : Value) (l : FL) (p : Plc) (hv : TensIs w v l) (hu : WriteIs w u p) (hF : Forest l) (hw : writeE p = 0) :
    Calls Try.prog 42 #[v, u] w fun e w' => ∃ x, e = .returned (.tuple #[x, .int .i64 (writtenE l p)]) ∧ TensIs w' x (if writtenE l p = 0 then writtenL l p else []) ∧ w.grownBy w' none := by
  obtain ⟨vn, vk, vv, rfl, r1, r2, r3⟩ := hu
  obtain ⟨na, nc, rfl⟩ := r1.shape
  obtain ⟨ka, kc, rfl⟩ := r2.shape
  obtain ⟨va, vc, rfl⟩ := r3.shape
  obtain ⟨a, cap, rfl⟩ := hv.shape
  obtain ⟨W1, hW1⟩ : ∃ W1 : World, W1 = w.alloc (.cells #[.slice na p.name.length nc, .slice ka p.key.length kc, .bool p.gone, .slice va p.value.length vc] 59) := ⟨_, rfl⟩
  have hgW : w.grownBy W1 none := by rw [hW1]; exact World.grownBy_alloc _ _ _
  have HW1 : Hid (W1 = w.alloc (.cells #[.slice na p.name.length nc, .slice ka p.key.length kc, .bool p.gone, .slice va p.value.length vc] 59)) := hW1
  obtain ⟨⟨a0, a1, a2, a3⟩, _⟩ := quad_room (grown_refl W1 none) (by rw [hW1]; exact heap_alloc_new w _ : W1.heap[w.heap.size]? = some (.cells #[.slice na p.name.length nc, .slice ka p.key.length kc, .bool p.gone, .slice va p.value.length vc] 59))
  have hroom := hF.room
  obtain ⟨hn, hk, hval⟩ := (writeE_iff p).1 hw
  have hvl : p.value.length ≤ 32 := by
    by_cases hg : p.gone = true
    · rw [if_pos hg] at hval; rw [hval]; simp
    · rw [if_neg hg] at hval; exact hval
  have HTn : Hid (∀ i, i < l.length → (l.getD i ([], [])).1.length ≤ 8 ∧ Fits (l.getD i ([], [])).2) := fun i hi => by
    have := hF.tens l[i] (List.getElem_mem hi)
    rw [show l[i] = l.getD i ([], []) by simp [hi]] at this
    exact ⟨this.1.2, this.2.2.fits⟩
  have HV : Hid (TensIs W1 (.slice a l.length cap) l) := hv.grown hgW
  have R1 : Hid (SliceIs W1 (.slice na p.name.length nc) p.name) := r1.grown hgW
  have PO : Hid (Calls Try.prog 66 #[.slice a l.length cap, .slice na p.name.length nc] W1 fun e w' => ∃ x, e = .returned x ∧ PairsIs W1 x (ofF l p.name) ∧ w' = W1) := pairsOf_any W1 _ _ l p.name HV.out R1.out hroom
  have DO : Hid (p.gone = true → ∀ x, PairsIs W1 x (ofF l p.name) → Calls Try.prog 67 #[x, .slice ka p.key.length kc] W1 fun e w' => ∃ y, e = .returned (.tuple #[y, .int .i64 (nextE l p)]) ∧ PairsB 0 w' y (if nextE l p = 0 then nextL l p else []) ∧ W1.grownBy w' none) := fun hg x hx => by
    have := deletedOf_new W1 x _ _ p.key hx (r2.grown hgW)
    rw [nextE, nextL, if_pos hg, if_pos hg]
    exact this
  have UO : Hid (p.gone = false → ∀ x, PairsIs W1 x (ofF l p.name) → Calls Try.prog 68 #[x, .agg #[.slice ka p.key.length kc, .slice va p.value.length vc]] W1 fun e w' => ∃ y, e = .returned (.tuple #[y, .int .i64 (nextE l p)]) ∧ PairsB 0 w' y (if nextE l p = 0 then nextL l p else []) ∧ W1.grownBy w' none) := fun hg x hx => by
    have := putOf_new W1 x (.agg #[.slice ka p.key.length kc, .slice va p.value.length vc]) _ (p.key, p.value) hx ⟨_, _, rfl, r2.grown hgW, r3.grown hgW⟩
    have hg' : ¬ p.gone = true := by rw [hg]; decide
    rw [nextE, nextL, if_neg hg', if_neg hg']
    exact this
  have HWE : Hid (writtenE l p = if nextE l p = 0 then (if 8 < (writtenL l p).length then 11 else 0) else nextE l p) := rfl
  have HFIN := t_written l p hF.rises
  have HNL : Hid (nextE l p = 0 → (nextL l p).length ≤ 60) := fun h => next_len60 hF hw h
  generalize writtenE l p = WE at *
  generalize writtenL l p = WL at *
  generalize nextE l p = NE at *
  generalize nextL l p = NX at *
  generalize p.gone = go at *
  generalize hRES : (if WE = 0 then WL else []) = RES
  have HR0 : Hid (RES = if WE = 0 then WL else []) := hRES.symm
  clear hRES
  have HFIN' : Hid (t_putEnd (p.name, NX) (l.foldl (t_putStep (p.name, NX)) ([], decide (NX.length = 0))) = WL) := HFIN
  clear HFIN hv hW1 hF hw hval r1 r2 r3 hk
  go_enter Try.func42, Try.ntmps42
  go_wp2_with fail
  rw [← HW1.out]
  refine PO.out.mono ?_
  rintro e w1 ⟨x, rfl, hx, rfl⟩
  go_upto_if 17 with fail
  go_cut [1, 7, 8] from 12 (fun s1 s7 s8 wx => s8 = .int .i64 NE ∧ PairsB 0 wx s7 (if NE = 0 then NX else []) ∧ w1.grownBy wx none)
  case first =>
    cases go with
    | true =>
      have D1 := DO.out rfl x hx
      have D2 : Hid (Calls Try.prog 67 #[x, .slice ka p.key.length kc] w1 fun e w' => ∃ y, e = .returned (.tuple #[y, .int .i64 NE]) ∧ PairsB 0 w' y (if NE = 0 then NX else []) ∧ w1.grownBy w' none) := D1
      clear D1 DO UO HWE HNL HFIN' hx HR0
      go_wp2_with fail
      refine D2.out.mono ?_
      rintro e w2 ⟨y, rfl, hy, hg2⟩
      go_wp2_with fail
      go_meet
      case rel => exact ⟨rfl, hy, hg2⟩
    | false =>
      have D1 := UO.out rfl x hx
      have D2 : Hid (Calls Try.prog 68 #[x, .agg #[.slice ka p.key.length kc, .slice va p.value.length vc]] w1 fun e w' => ∃ y, e = .returned (.tuple #[y, .int .i64 NE]) ∧ PairsB 0 w' y (if NE = 0 then NX else []) ∧ w1.grownBy w' none) := D1
      clear D1 DO UO HWE HNL HFIN' hx HR0
      go_wp2_with fail
      refine D2.out.mono ?_
      rintro e w2 ⟨y, rfl, hy, hg2⟩
      go_wp2_with fail
      go_meet
      case rel => exact ⟨rfl, hy, hg2⟩
  case rest =>
    obtain ⟨rfl, hy, hg2⟩ := hcut
    obtain ⟨W2, hW2⟩ : ∃ W2 : World, W2 = wc := ⟨_, rfl⟩
    subst hW2
    have hgW2 := grown_trans hgW hg2
    clear DO UO hx PO
    by_cases hE : NE = 0
    · rw [if_pos hE] at hy
      have hWE := HWE.out
      rw [if_pos hE] at hWE
      have hN60 := HNL.out hE
      obtain ⟨xa, xc, rfl⟩ := hy.shape
      have HNX : Hid (PairsB 0 W2 (.slice xa NX.length xc) NX) := hy
      have HWE2 : Hid (WE = if 8 < WL.length then 11 else 0) := hWE
      have b0 := hg2.cell a0 (by simp)
      have HV2 : Hid (TensIs W2 (.slice a l.length cap) l) := HV.out.grown hg2
      have R2 : Hid (SliceIs W2 (.slice na p.name.length nc) p.name) := R1.out.grown hg2
      have JN : Hid (∀ w', W2.grownBy w' none → Calls Try.prog 64 #[.slice na p.name.length nc, .slice none 0 0] w' fun e w'' => ∃ v', e = .returned v' ∧ Own w'.heap.size w'' v' p.name ∧ w'.grownBy w'' none) := fun w' hg' => by
        have := joined_gen w' _ (.slice none 0 0) p.name [] (R2.out.grown hg') (sliceIs_nil _) (by simp; omega)
        rw [List.append_nil] at this
        exact this
      have hdec : ((NX.length : Int) == 0) = decide (NX.length = 0) := by
        by_cases h : NX.length = 0 <;> simp [h]
      generalize decide (NX.length = 0) = D0 at *
      generalize hT0 : (p.name, NX) = T0 at *
      have HT1 : Hid (T0.1 = p.name) := by rw [← hT0]; exact rfl
      have HT2 : Hid (T0.2 = NX) := by rw [← hT0]; exact rfl
      have HRES : Hid (RES = if 8 < WL.length then [] else WL) := by
        show _ = _
        rw [HR0.out, HWE2.out]
        by_cases h8 : 8 < WL.length
        · rw [if_pos h8, if_pos h8, if_neg (by decide)]
        · rw [if_neg h8, if_neg h8, if_pos rfl]
      clear HR0
      clear hT0 hWE HWE HNL hy a0 a1 a2 a3 HV R1
      subst hE
      go_wp2_with fail
      go_loopw [9, 10, 11] (fun cv dv i wr => ∃ (m : Nat) (T : FL) (d : Bool), m ≤ l.length ∧ i = .int .i64 (m : Int) ∧ dv = .bool d ∧ (l.take m).foldl (t_putStep T0) ([], D0) = (T, d) ∧ OwnT W2.heap.size wr cv T ∧ W2.grownBy wr none ∧ T.length ≤ 2 * m) (fun _ _ i _ => l.length - (intOf i).toNat)
      case atStart => exact ⟨0, [], D0, by omega, rfl, by first | rfl | rw [hdec], rfl, ownT_nil _ _, grown_refl _ _, by simp⟩
      case round =>
        obtain ⟨m, T, d, hm, rfl, rfl, hfold, hown, hg, hTl⟩ := hrel
        have q0 := hg.cell b0 (by simp)
        by_cases hlt : m < l.length
        · obtain ⟨b, o, rfl, hat⟩ := HV2.out.at m hlt
          obtain ⟨tn, tp, c1, c2, s1, s2⟩ := hat
          have hbw : b < W2.heap.size := cell_lt c1
          have hF : (l.take (m + 1)).foldl (t_putStep T0) ([], D0) = t_putStep T0 (T, d) (l.getD m ([], [])) := by
            rw [List.take_succ_eq_append_getElem hlt, List.foldl_append, hfold]; simp [hlt]
          obtain ⟨hl1, hl2⟩ := HTn.out m hlt
          generalize l.getD m ([], []) = P at *
          have BE : Hid (∀ w', W2.grownBy w' none → Calls Try.prog 63 #[tn, .slice na p.name.length nc] w' fun e w'' => e = .returned (.bool (klt P.1 p.name)) ∧ w'' = w') := fun w' hg => before_any w' _ _ _ _ (s1.grown hg) (R2.out.grown hg)
          have SB : Hid (∀ w', W2.grownBy w' none → Calls Try.prog 69 #[tn, .slice na p.name.length nc] w' fun e w'' => e = .returned (.bool (decide (P.1 = p.name))) ∧ w'' = w') := fun w' hg => rsame_any w' _ _ _ _ (s1.grown hg) (R2.out.grown hg)
          have JO : Hid (∀ w', W2.grownBy w' none → Calls Try.prog 64 #[tn, .slice none 0 0] w' fun e w'' => ∃ v', e = .returned v' ∧ Own w'.heap.size w'' v' P.1 ∧ w'.grownBy w'' none) := fun w' hg' => by
            have := joined_gen w' tn (.slice none 0 0) P.1 [] (s1.grown hg') (sliceIs_nil _) (by simp; omega)
            rw [List.append_nil] at this
            exact this
          have PC : Hid (∀ w', W2.grownBy w' none → Calls Try.prog 65 #[tp] w' fun e w'' => ∃ v', e = .returned v' ∧ PairsB 0 w'' v' P.2 ∧ w'.grownBy w'' none) := fun w' hg' => pairsCopy_new w' tp P.2 (s2.grown hg') hl2.many hl2.each
          obtain ⟨ak, ck, rfl⟩ := s1.shape
          obtain ⟨av, cv, rfl⟩ := s2.shape
          obtain ⟨ca, ccap, rfl⟩ := hown.shape
          have e1 := hg.cell c1 (by simp)
          have e2 := hg.cell c2 (by simp)
          have i1 : (m : Int) < (l.length : Int) := by omega
          obtain ⟨z, hz⟩ : ∃ z : Bool, (!d && !klt P.1 p.name) = z := ⟨_, rfl⟩
          have HF2 : Hid ((l.take (m + 1)).foldl (t_putStep T0) ([], D0) = (if P.1 = p.name then (if z = true then (T ++ [T0], true) else (T, d)) else ((if z = true then (T ++ [T0], true) else (T, d)).1 ++ [P], (if z = true then (T ++ [T0], true) else (T, d)).2))) := by
            show _ = _
            rw [hF, ← hz]
            unfold t_putStep
            rw [HT1.out]
            cases d <;> cases klt P.1 p.name <;> simp
          have HOW : Hid (OwnT W2.heap.size wr (.slice ca T.length ccap) T) := hown
          clear s1 s2 hF hfold hl1 hl2 hown
          go_upto_region 14 with fail
          go_cut [59] (fun s59 wx => s59 = .bool z ∧ ∃ n, wx = wr.drewN n)
          case first =>
            cases d with
            | true =>
              have hz' : z = false := by rw [← hz]; rfl
              subst hz'
              clear hz
              go_quiet (fail)
              go_wp2_with fail
              go_meet
              case rel => exact ⟨rfl, nq, rfl⟩
            | false =>
              have hz' : z = !klt P.1 p.name := by rw [← hz]; rfl
              subst hz'
              clear hz
              go_quiet (first | (go_at_call 63; exact Calls.quiet_of_same (BE.out _ (grown_drewN hg _))))
              go_wp2_with fail
              go_meet
              case rel => exact ⟨rfl, nq, rfl⟩
          case rest =>
            obtain ⟨rfl, n1, rfl⟩ := hcut
            have hgd := grown_drewN hg n1
            have HOD : Hid (OwnT W2.heap.size (wr.drewN n1) (.slice ca T.length ccap) T) := HOW.out.grownNone (grown_drewN (grown_refl _ none) n1)
            have e1 := hgd.cell c1 (by simp)
            have e2 := hgd.cell c2 (by simp)
            have q0 := hgd.cell b0 (by simp)
            generalize wr.drewN n1 = wa at *
            clear hg HOW BE hz
            go_upto_if 59 with fail
            go_cut [9, 10] (fun cv dv wx => ∃ (T1 : FL) (d1 : Bool), dv = .bool d1 ∧ (if z = true then (T ++ [T0], true) else (T, d)) = (T1, d1) ∧ T1.length ≤ T.length + 1 ∧ OwnT W2.heap.size wx cv T1 ∧ W2.grownBy wx none)
            case first =>
              cases z with
              | true =>
                go_wp2_with fail
                refine (JN.out _ hgd).mono ?_
                rintro e w3p ⟨xkp, rfl, okp, hg3p⟩
                obtain ⟨xap, xcp, rfl⟩ := okp.shape
                have hgnp := grown_trans hgd hg3p
                have hszp := hgnp.size
                have HO1 : Hid (OwnT W2.heap.size (w3p.alloc (.cells #[.slice xap p.name.length xcp, .slice xa NX.length xc] 54)) (.slice ca T.length ccap) T) := (HOD.out.grownNone hg3p).alloc _
                have HKp : Hid (PartIs 0 (w3p.alloc (.cells #[.slice xap p.name.length xcp, .slice xa NX.length xc] 54)) (.slice xap p.name.length xcp) T0.1) := by
                  rw [HT1.out]; exact (okp.alloc _).part
                have HVp : Hid (PairsB 0 (w3p.alloc (.cells #[.slice xap p.name.length xcp, .slice xa NX.length xc] 54)) (.slice xa NX.length xc) T0.2) := by
                  rw [HT2.out]; exact HNX.out.grown (grown_alloc hgnp _)
                clear okp
                go_wp2_with (at_builtin; refine wpList_append_ten rfl _ _ rfl W2.heap.size (.slice ca T.length ccap) T rfl HO1.out _ _ T0 HKp.out HVp.out w3p.heap.size (heap_alloc_new w3p _) rfl (by omega) (by simp; omega) ?_; intro v2p w4p ho2p hg2p)
                have hgwp : W2.grownBy w4p none := grown_ownT (grown_alloc hgnp _) HO1.out (Nat.le_refl _) hg2p
                go_meet
                case rel => exact ⟨T ++ [T0], true, rfl, rfl, by simp, ho2p, hgwp⟩
              | false =>
                go_wp2_with fail
                go_meet
                case rel => exact ⟨T, d, rfl, rfl, by omega, HOD.out, hgd⟩
            case rest =>
              obtain ⟨T1, d3, rfl, hT1, hT1l, hown1, hg1⟩ := hcut
              have hF3 := HF2.out
              rw [hT1] at hF3
              obtain ⟨ca1, ccap1, rfl⟩ := hown1.shape
              have HO1 : Hid (OwnT W2.heap.size wc (.slice ca1 T1.length ccap1) T1) := hown1
              have g1 := hg1.cell c1 (by simp)
              have g2 := hg1.cell c2 (by simp)
              have k1 := hg1.cell b0 (by simp)
              clear e1 e2 q0 hT1 HOD hgd hown1 HF2
              by_cases he : P.1 = p.name
              · have HS : Hid ((l.take (m + 1)).foldl (t_putStep T0) ([], D0) = (T1, d3)) := by rw [if_pos he] at hF3; exact hF3
                have hs : true = decide (P.1 = p.name) := (decide_eq_true he).symm
                rw [← hs] at SB
                clear he hs hF3
                go_wp2_with fail
                go_quiet (first | (go_at_call 69; exact Calls.quiet_of_same (SB.out _ (grown_drewN hg1 _))))
                go_wp2_with fail
                go_roundw
                case rel =>
                  exact ⟨m + 1, T1, d3, by omega, by go_num, rfl, HS.out, HO1.out.grownNone (grown_drewN (grown_refl _ none) _), grown_drewN hg1 _, by omega⟩
                case measure => simp [intOf]; omega
              · have HS : Hid ((l.take (m + 1)).foldl (t_putStep T0) ([], D0) = (T1 ++ [P], d3)) := by rw [if_neg he] at hF3; exact hF3
                have hs : false = decide (P.1 = p.name) := (decide_eq_false he).symm
                rw [← hs] at SB
                clear he hs hF3
                go_wp2_with fail
                go_quiet (first | (go_at_call 69; exact Calls.quiet_of_same (SB.out _ (grown_drewN hg1 _))))
                have hgq := grown_drewN hg1 nq
                have HOQ : Hid (OwnT W2.heap.size (wc.drewN nq) (.slice ca1 T1.length ccap1) T1) := HO1.out.grownNone (grown_drewN (grown_refl _ none) nq)
                generalize wc.drewN nq = wb at *
                clear hg1 HO1 g1 g2 k1 SB
                have hgd := grown_drew hgq
                have e1 := hgd.cell c1 (by simp)
                have e2 := hgd.cell c2 (by simp)
                have hszb := hgq.size
                have hgdr : wb.grownBy wb.drew none := grown_drew (grown_refl wb none)
                go_upto_region 18 with fail
                go_region_held3 (fun w' => w'.cell? ⟨b, o + m * 2, none⟩ = some (.slice ak P.1.length ck) ∧ w'.cell? ⟨b, o + m * 2 + 1, none⟩ = some (.slice av P.2.length cv))
                  (first | with_reducible exact ⟨e1, e2⟩ | with_reducible exact ⟨f1, f2⟩ | with_reducible exact ⟨f3, f4⟩ | with_reducible exact ⟨(World.grownBy_alloc _ _ none).cell f3 (by simp), (World.grownBy_alloc _ _ none).cell f4 (by simp)⟩ | with_reducible exact ⟨f5, f6⟩)
                  (first
                    | (go_at_call 64; with_reducible refine (JO.out _ hgd).mono ?_; rintro e w2 ⟨v2, rfl, ho2, hg2⟩; obtain ⟨ya, yc, rfl⟩ := ho2.shape; have hgd2 := grown_trans hgd hg2; have hgr2 := grown_trans hgdr hg2; have f1 := hgd2.cell c1 (by simp); have f2 := hgd2.cell c2 (by simp))
                    | (go_at_call 65; with_reducible refine (PC.out _ hgd2).mono ?_; rintro e w3 ⟨v3, rfl, ho3, hg3⟩; obtain ⟨ta, tc, rfl⟩ := ho3.shape; have hgd3 := grown_trans hgd2 hg3; have hgr3 := grown_trans hgr2 hg3; have f3 := hgd3.cell c1 (by simp); have f4 := hgd3.cell c2 (by simp))
                    | (refine step_append_ten (by rfl) _ _ (by rfl) W2.heap.size (.slice ca1 T1.length ccap1) T1 (by rfl) ((HOQ.out.grownNone hgr3).alloc _) (.slice ya P.1.length yc) (.slice ta P.2.length tc) P ((ho2.grownNone hg3).alloc _).part ((ho3.up _).grown (World.grownBy_alloc _ _ _)) w3.heap.size (heap_alloc_new w3 _) (by rfl) (by omega) (by have := hgd3.size; simp; omega) ?_
                       intro v4 w4 ho4 hg4
                       have f5 := hg4.cell ((World.grownBy_alloc _ _ none).cell f3 (by simp)) (fun e => absurd (HOQ.out.lt _ e.symm).1 (Nat.not_le_of_lt hbw))
                       have f6 := hg4.cell ((World.grownBy_alloc _ _ none).cell f4 (by simp)) (fun e => absurd (HOQ.out.lt _ e.symm).1 (Nat.not_le_of_lt hbw))))
                have hgw : W2.grownBy w4 none := grown_ownT (grown_alloc hgd3 _) ((HOQ.out.grownNone hgr3).alloc _) (Nat.le_refl _) hg4
                have HO4 : Hid (OwnT W2.heap.size w4 v4 (T1 ++ [P])) := ho4
                clear e1 e2 f1 f2 f3 f4 f5 f6 ho2 ho3 ho4 hg4 hgd3 hgd2 hgd hg3 hg2 JO PC c1 c2 HOQ hgr2 hgr3 hgdr
                go_wp2_with fail
                go_roundw
                case rel => exact ⟨m + 1, T1 ++ [P], d3, by omega, by go_num, rfl, HS.out, HO4.out, hgw, by simp; omega⟩
                case measure => simp [intOf]; omega
        · obtain rfl : m = l.length := by omega
          rw [List.take_length] at hfold
          have hput := HFIN'.out
          rw [hfold] at hput
          have HPUT : Hid (t_putEnd T0 (T, d) = WL) := hput
          clear hput hfold
          obtain ⟨ca, ccap, rfl⟩ := hown.shape
          cases d with
          | true =>
            have HPL : Hid (T = WL) := HPUT.out
            by_cases hfull : 8 < T.length
            · have t9 : (T.length : Int) > 8 := by omega
              have HE : Hid (WE = 11) := by show _ = _; rw [HWE2.out, ← HPL.out, if_pos hfull]
              have HE2 : Hid (RES = []) := by show _ = _; rw [HRES.out, ← HPL.out, if_pos hfull]
              go_wp2
              go_ret2
              exact ⟨_, by rw [HE.out]; rfl, by rw [HE2.out]; exact tensIs_nil _, grown_trans hgW2 hg⟩
            · have t9 : ¬ (T.length : Int) > 8 := by omega
              have HE : Hid (WE = 0) := by show _ = _; rw [HWE2.out, ← HPL.out, if_neg hfull]
              have HE2 : Hid (RES = T) := by show _ = _; rw [HRES.out, ← HPL.out, if_neg hfull]
              go_wp2
              go_ret2
              exact ⟨_, by rw [HE.out]; rfl, by rw [HE2.out]; exact hown.list, grown_trans hgW2 hg⟩
          | false =>
            have HPL : Hid (T ++ [T0] = WL) := HPUT.out
            go_wp2_with fail
            refine (JN.out _ hg).mono ?_
            rintro e w3p ⟨xkp, rfl, okp, hg3p⟩
            obtain ⟨xap, xcp, rfl⟩ := okp.shape
            have hgnp := grown_trans hg hg3p
            have hszp := hgnp.size
            have HO1 : Hid (OwnT W2.heap.size (w3p.alloc (.cells #[.slice xap p.name.length xcp, .slice xa NX.length xc] 54)) (.slice ca T.length ccap) T) := (hown.grownNone hg3p).alloc _
            have HKp : Hid (PartIs 0 (w3p.alloc (.cells #[.slice xap p.name.length xcp, .slice xa NX.length xc] 54)) (.slice xap p.name.length xcp) T0.1) := by
              rw [HT1.out]; exact (okp.alloc _).part
            have HVp : Hid (PairsB 0 (w3p.alloc (.cells #[.slice xap p.name.length xcp, .slice xa NX.length xc] 54)) (.slice xa NX.length xc) T0.2) := by
              rw [HT2.out]; exact HNX.out.grown (grown_alloc hgnp _)
            clear okp hown
            by_cases hfull : 8 < (T ++ [T0]).length
            · have hfull2 : 8 ≤ T.length := by simp at hfull; omega
              have t8 : (8 : Int) ≤ (T.length : Int) := by omega
              have t9 : (8 : Int) < (T.length : Int) + 1 := by omega
              have HE : Hid (WE = 11) := by show _ = _; rw [HWE2.out, ← HPL.out, if_pos hfull]
              have HE2 : Hid (RES = []) := by show _ = _; rw [HRES.out, ← HPL.out, if_pos hfull]
              clear hfull
              go_wp2_with (at_builtin; refine wpList_append_ten rfl _ _ rfl W2.heap.size (.slice ca T.length ccap) T rfl HO1.out _ _ T0 HKp.out HVp.out w3p.heap.size (heap_alloc_new w3p _) rfl (by omega) (by simp; omega) ?_; intro v2z w4z ho2z hg2z; obtain ⟨va9, vc9, rfl⟩ := ho2z.shape)
              have hgwz : W2.grownBy w4z none := grown_ownT (grown_alloc hgnp _) HO1.out (Nat.le_refl _) hg2z
              go_wp2
              go_ret2
              exact ⟨_, by rw [HE.out]; rfl, by rw [HE2.out]; exact tensIs_nil _, grown_trans hgW2 hgwz⟩
            · have hfull2 : T.length < 8 := by simp at hfull; omega
              have t8 : (T.length : Int) < 8 := by omega
              have t9 : (T.length : Int) + 1 ≤ 8 := by omega
              have HE : Hid (WE = 0) := by show _ = _; rw [HWE2.out, ← HPL.out, if_neg hfull]
              have HE2 : Hid (RES = T ++ [T0]) := by show _ = _; rw [HRES.out, ← HPL.out, if_neg hfull]
              clear hfull
              go_wp2_with (at_builtin; refine wpList_append_ten rfl _ _ rfl W2.heap.size (.slice ca T.length ccap) T rfl HO1.out _ _ T0 HKp.out HVp.out w3p.heap.size (heap_alloc_new w3p _) rfl (by omega) (by simp; omega) ?_; intro v2z w4z ho2z hg2z; obtain ⟨va9, vc9, rfl⟩ := ho2z.shape)
              have hgwz : W2.grownBy w4z none := grown_ownT (grown_alloc hgnp _) HO1.out (Nat.le_refl _) hg2z
              go_wp2
              go_ret2
              exact ⟨_, by rw [HE.out]; rfl, by rw [HE2.out]; have := ho2z.list; rw [List.length_append] at this; exact this, grown_trans hgW2 hgwz⟩
    · have hz : (NE != 0) = true := by simpa using hE
      have e1 := HWE.out
      rw [if_neg hE] at e1
      subst e1
      have HRN : Hid (RES = []) := by show _ = _; rw [HR0.out, if_neg hE]
      clear HWE HNL HFIN' hy HR0
      go_wp2
      go_ret2
      exact ⟨_, rfl, by rw [HRN.out]; exact tensIs_nil _, hgW2⟩
end Go.Proofs.Ytljdconhplgipaa
