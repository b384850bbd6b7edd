/-
  Texts of this proof, joined: RWrF, RWritten, RApplied.
-/
import Derived.Test.YtljdconhplgipaaGreatWrMem
import Derived.Test.YtljdconhplgipaaGreatPart17
import Derived.Test.YtljdconhplgipaaGreatPart18
import Derived.Test.YtljdconhplgipaaGreatPart19
import Derived.Test.YtljdconhplgipaaGreatPart20
import Derived.Test.YtljdconhplgipaaGreatRJoined
import Derived.Deep.RegionHeld3
import Derived.Deep.RegionWith
import Derived.Handy
/-
  The walk of the document's answer to P5.4: writeFault.
-/
namespace Go.Proofs.YtljdconhplgipaaGreat
open Go.RowKit
set_option maxRecDepth 100000 in
set_option maxHeartbeats 2000000 in
theorem writeFault_any (w : World) (v : Value) (p : Plc) (hv : WriteIs w v p) :
    Calls Tryz.prog 72 #[v] w fun e w' => e = .returned (.int .i64 (writeE p)) ∧ w.grownBy w' none := by
  obtain ⟨na, nc, ka, kc, va, vc, rfl⟩ := hv.aggW
  obtain ⟨W1, hW1⟩ : ∃ W1 : World, W1 = w.alloc (.cells #[.slice na p.name.length nc, .slice ka p.key.length kc, .bool p.gone, .slice va p.value.length vc] 40) := ⟨_, rfl⟩
  have hgW : w.grownBy W1 none := by rw [hW1]; exact World.grownBy_alloc _ _ _
  have HW1 : Hid (W1 = w.alloc (.cells #[.slice na p.name.length nc, .slice ka p.key.length kc, .bool p.gone, .slice va p.value.length vc] 40)) := hW1
  obtain ⟨⟨a0, a1, a2, a3⟩, _⟩ := quad_room (grown_refl W1 none) (by rw [hW1]; exact heap_alloc_new w _ : W1.heap[w.heap.size]? = some (.cells #[.slice na p.name.length nc, .slice ka p.key.length kc, .bool p.gone, .slice va p.value.length vc] 40))
  have PFA : Hid (∀ w', Calls Tryz.prog 88 #[.agg #[.slice ka p.key.length kc, .slice va p.value.length vc]] w' fun e w'' => e = .returned (.int .i64 (pairFaultF (p.key, p.value))) ∧ w'.grownBy w'' none) := fun w' => rpairFault_any w' ka va (p.key, p.value) kc vc
  have HE : Hid (writeE p = if nameFaultF p.name.length = 0 then (if p.gone = true then (if keyFaultF p.key.length = 0 then (if 0 < p.value.length then 4 else 0) else keyFaultF p.key.length) else pairFaultF (p.key, p.value)) else nameFaultF p.name.length) := rfl
  generalize writeE p = WE at *
  generalize pairFaultF (p.key, p.value) = PF at *
  have NF : Hid (∀ w', Calls Tryz.prog 86 #[.slice na p.name.length nc] w' fun e w'' => e = .returned (.int .i64 (nameFaultF p.name.length)) ∧ w'' = w') := fun w' => nameFault_any w' na _ nc
  have KF : Hid (∀ w', Calls Tryz.prog 87 #[.slice ka p.key.length kc] w' fun e w'' => e = .returned (.int .i64 (keyFaultF p.key.length)) ∧ w'' = w') := fun w' => keyFault_any w' ka _ kc
  generalize nameFaultF p.name.length = NE at *
  generalize keyFaultF p.key.length = KE at *
  generalize p.name.length = n1 at *
  generalize p.key.length = n2 at *
  generalize p.value.length = n3 at *
  generalize p.gone = go at *
  clear hv hW1
  by_cases h1 : NE = 0
  · subst h1
    cases go with
    | true =>
      by_cases h2 : KE = 0
      · subst h2
        by_cases h3 : 0 < n3
        · obtain rfl : WE = 4 := by rw [HE.out]; simp [h3]
          have i3 : (n3 : Int) > 0 := by omega
          clear HE
          go_enter Tryz.func72, Tryz.ntmps72
          go_wp2_with fail
          rw [← HW1.out]
          refine (NF.out _).mono ?_
          rintro e w1 ⟨rfl, rfl⟩
          go_wp2_with fail
          refine (KF.out _).mono ?_
          rintro e w2 ⟨rfl, rfl⟩
          go_wp2
          go_ret
          exact ⟨rfl, hgW⟩
        · obtain rfl : WE = 0 := by rw [HE.out]; simp [h3]
          have i3 : ¬ ((n3 : Int) > 0) := by omega
          clear HE
          go_enter Tryz.func72, Tryz.ntmps72
          go_wp2_with fail
          rw [← HW1.out]
          refine (NF.out _).mono ?_
          rintro e w1 ⟨rfl, rfl⟩
          go_wp2_with fail
          refine (KF.out _).mono ?_
          rintro e w2 ⟨rfl, rfl⟩
          go_wp2
          go_ret
          exact ⟨rfl, hgW⟩
      · obtain rfl : WE = KE := by rw [HE.out]; simp [h2]
        have hz : (WE == 0) = false := by simpa using h2
        clear HE
        go_enter Tryz.func72, Tryz.ntmps72
        go_wp2_with fail
        rw [← HW1.out]
        refine (NF.out _).mono ?_
        rintro e w1 ⟨rfl, rfl⟩
        go_wp2_with fail
        refine (KF.out _).mono ?_
        rintro e w2 ⟨rfl, rfl⟩
        go_wp2
        go_ret
        exact ⟨rfl, hgW⟩
    | false =>
      obtain rfl : WE = PF := by rw [HE.out]; simp
      clear HE
      go_enter Tryz.func72, Tryz.ntmps72
      go_wp2_with fail
      rw [← HW1.out]
      refine (NF.out _).mono ?_
      rintro e w1 ⟨rfl, rfl⟩
      go_wp2_with fail
      refine (PFA.out _).mono ?_
      rintro e w2 ⟨rfl, hg2⟩
      go_wp2
      go_ret
      exact ⟨rfl, grown_trans hgW hg2⟩
  · obtain rfl : WE = NE := by rw [HE.out, if_neg h1]
    have hz : (WE == 0) = false := by simpa using h1
    clear HE
    go_enter Tryz.func72, Tryz.ntmps72
    go_wp2_with fail
    rw [← HW1.out]
    refine (NF.out _).mono ?_
    rintro e w1 ⟨rfl, rfl⟩
    go_wp2
    go_ret
    exact ⟨rfl, hgW⟩
end Go.Proofs.YtljdconhplgipaaGreat

/-
  The walk of the document's answer to P5.4: written.
-/
namespace Go.Proofs.YtljdconhplgipaaGreat
open Go.RowKit
theorem t_fold_done (p : Tn) (l : FL) : ∀ out : FL, l.foldl (t_putStep p) (out, true) = (out ++ t_delL l p.1, true) := by
  induction l with
  | nil => intro out; simp [t_delL]
  | cons q r ih =>
    intro out
    rw [List.foldl_cons]
    by_cases e : q.1 = p.1
    · rw [show t_putStep p (out, true) q = (out, true) by simp [t_putStep, e], ih]
      simp [t_delL, e]
    · rw [show t_putStep p (out, true) q = (out ++ [q], true) by simp [t_putStep, e], ih]
      simp [t_delL, e]
theorem t_written (l : FL) (w : Plc) (h : t_Rises l) : t_putEnd (w.name, nextL l w) (l.foldl (t_putStep (w.name, nextL l w)) ([], decide ((nextL l w).length = 0))) = writtenL l w := by
  unfold writtenL
  by_cases h0 : (nextL l w).length = 0
  · rw [if_pos h0, decide_eq_true h0, t_fold_done]
    simp [t_putEnd]
  · rw [if_neg h0, decide_eq_false h0]
    have := t_put_fold (w.name, nextL l w) l h []
    rw [List.nil_append] at this
    exact this
theorem next_len60 {l : FL} (h : Forest l) {w : Plc} (hw : writeE w = 0) (he : nextE l w = 0) : (nextL l w).length ≤ 60 := (next_tree h hw he).room
set_option maxRecDepth 100000 in
set_option maxHeartbeats 4000000 in
theorem written_any (w : World) (v u : Value) (l : FL) (p : Plc) (hv : TensIs w v l) (hu : WriteIs w u p) (hF : Forest l) (hw : writeE p = 0) :
    Calls Tryz.prog 75 #[v, u] w fun e w' => ∃ x, e = .returned (.tuple #[x, .int .i64 (writtenE l p)]) ∧ TensIs w' x (if writtenE l p = 0 then writtenL l p else []) ∧ w.grownBy w' none := by
  obtain ⟨vn, vk, vv, rfl, r1, r2, r3⟩ := hu
  obtain ⟨na, nc, rfl⟩ := r1.shape
  obtain ⟨ka, kc, rfl⟩ := r2.shape
  obtain ⟨va, vc, rfl⟩ := r3.shape
  obtain ⟨a, cap, rfl⟩ := hv.shape
  obtain ⟨W1, hW1⟩ : ∃ W1 : World, W1 = w.alloc (.cells #[.slice na p.name.length nc, .slice ka p.key.length kc, .bool p.gone, .slice va p.value.length vc] 40) := ⟨_, rfl⟩
  have hgW : w.grownBy W1 none := by rw [hW1]; exact World.grownBy_alloc _ _ _
  have HW1 : Hid (W1 = w.alloc (.cells #[.slice na p.name.length nc, .slice ka p.key.length kc, .bool p.gone, .slice va p.value.length vc] 40)) := hW1
  obtain ⟨⟨a0, a1, a2, a3⟩, _⟩ := quad_room (grown_refl W1 none) (by rw [hW1]; exact heap_alloc_new w _ : W1.heap[w.heap.size]? = some (.cells #[.slice na p.name.length nc, .slice ka p.key.length kc, .bool p.gone, .slice va p.value.length vc] 40))
  have hroom := hF.room
  obtain ⟨hn, hk, hval⟩ := (writeE_iff p).1 hw
  have hvl : p.value.length ≤ 32 := by
    by_cases hg : p.gone = true
    · rw [if_pos hg] at hval; rw [hval]; simp
    · rw [if_neg hg] at hval; exact hval
  have HTn : Hid (∀ i, i < l.length → (l.getD i ([], [])).1.length ≤ 8 ∧ Fits (l.getD i ([], [])).2) := fun i hi => by
    have := hF.tens l[i] (List.getElem_mem hi)
    rw [show l[i] = l.getD i ([], []) by simp [hi]] at this
    exact ⟨this.1.2, this.2.2.fits⟩
  have HV : Hid (TensIs W1 (.slice a l.length cap) l) := hv.grown hgW
  have R1 : Hid (SliceIs W1 (.slice na p.name.length nc) p.name) := r1.grown hgW
  have PO : Hid (Calls Tryz.prog 35 #[.slice a l.length cap, .slice na p.name.length nc] W1 fun e w' => ∃ x, e = .returned x ∧ PairsIs W1 x (ofF l p.name) ∧ w' = W1) := pairsOf_any W1 _ _ l p.name HV.out R1.out hroom
  have DO : Hid (p.gone = true → ∀ x, PairsIs W1 x (ofF l p.name) → Calls Tryz.prog 91 #[x, .slice ka p.key.length kc] W1 fun e w' => ∃ y, e = .returned (.tuple #[y, .int .i64 (nextE l p)]) ∧ PairsB 0 w' y (if nextE l p = 0 then nextL l p else []) ∧ W1.grownBy w' none) := fun hg x hx => by
    have := deletedOf_new W1 x _ _ p.key hx (r2.grown hgW)
    rw [nextE, nextL, if_pos hg, if_pos hg]
    exact this
  have UO : Hid (p.gone = false → ∀ x, PairsIs W1 x (ofF l p.name) → Calls Tryz.prog 92 #[x, .agg #[.slice ka p.key.length kc, .slice va p.value.length vc]] W1 fun e w' => ∃ y, e = .returned (.tuple #[y, .int .i64 (nextE l p)]) ∧ PairsB 0 w' y (if nextE l p = 0 then nextL l p else []) ∧ W1.grownBy w' none) := fun hg x hx => by
    have := putOf_new W1 x (.agg #[.slice ka p.key.length kc, .slice va p.value.length vc]) _ (p.key, p.value) hx ⟨_, _, rfl, r2.grown hgW, r3.grown hgW⟩
    have hg' : ¬ p.gone = true := by rw [hg]; decide
    rw [nextE, nextL, if_neg hg', if_neg hg']
    exact this
  have HWE : Hid (writtenE l p = if nextE l p = 0 then (if 8 < (writtenL l p).length then 11 else 0) else nextE l p) := rfl
  have HFIN := t_written l p hF.rises
  have HNL : Hid (nextE l p = 0 → (nextL l p).length ≤ 60) := fun h => next_len60 hF hw h
  generalize writtenE l p = WE at *
  generalize writtenL l p = WL at *
  generalize nextE l p = NE at *
  generalize nextL l p = NX at *
  generalize p.gone = go at *
  generalize hRES : (if WE = 0 then WL else []) = RES
  have HR0 : Hid (RES = if WE = 0 then WL else []) := hRES.symm
  clear hRES
  have HFIN' : Hid (t_putEnd (p.name, NX) (l.foldl (t_putStep (p.name, NX)) ([], decide (NX.length = 0))) = WL) := HFIN
  clear HFIN hv hW1 hF hw hval r1 r2 r3 hk
  go_enter Tryz.func75, Tryz.ntmps75
  go_wp2_with fail
  rw [← HW1.out]
  refine PO.out.mono ?_
  rintro e w1 ⟨x, rfl, hx, rfl⟩
  go_upto_if 17 with fail
  go_cut [1, 7, 8] from 12 (fun s1 s7 s8 wx => s8 = .int .i64 NE ∧ PairsB 0 wx s7 (if NE = 0 then NX else []) ∧ w1.grownBy wx none)
  case first =>
    cases go with
    | true =>
      have D1 := DO.out rfl x hx
      have D2 : Hid (Calls Tryz.prog 91 #[x, .slice ka p.key.length kc] w1 fun e w' => ∃ y, e = .returned (.tuple #[y, .int .i64 NE]) ∧ PairsB 0 w' y (if NE = 0 then NX else []) ∧ w1.grownBy w' none) := D1
      clear D1 DO UO HWE HNL HFIN' hx HR0
      go_wp2_with fail
      refine D2.out.mono ?_
      rintro e w2 ⟨y, rfl, hy, hg2⟩
      go_wp2_with fail
      go_meet
      case rel => exact ⟨rfl, hy, hg2⟩
    | false =>
      have D1 := UO.out rfl x hx
      have D2 : Hid (Calls Tryz.prog 92 #[x, .agg #[.slice ka p.key.length kc, .slice va p.value.length vc]] w1 fun e w' => ∃ y, e = .returned (.tuple #[y, .int .i64 NE]) ∧ PairsB 0 w' y (if NE = 0 then NX else []) ∧ w1.grownBy w' none) := D1
      clear D1 DO UO HWE HNL HFIN' hx HR0
      go_wp2_with fail
      refine D2.out.mono ?_
      rintro e w2 ⟨y, rfl, hy, hg2⟩
      go_wp2_with fail
      go_meet
      case rel => exact ⟨rfl, hy, hg2⟩
  case rest =>
    obtain ⟨rfl, hy, hg2⟩ := hcut
    obtain ⟨W2, hW2⟩ : ∃ W2 : World, W2 = wc := ⟨_, rfl⟩
    subst hW2
    have hgW2 := grown_trans hgW hg2
    clear DO UO hx PO
    by_cases hE : NE = 0
    · rw [if_pos hE] at hy
      have hWE := HWE.out
      rw [if_pos hE] at hWE
      have hN60 := HNL.out hE
      obtain ⟨xa, xc, rfl⟩ := hy.shape
      have HNX : Hid (PairsB 0 W2 (.slice xa NX.length xc) NX) := hy
      have HWE2 : Hid (WE = if 8 < WL.length then 11 else 0) := hWE
      have b0 := hg2.cell a0 (by simp)
      have HV2 : Hid (TensIs W2 (.slice a l.length cap) l) := HV.out.grown hg2
      have R2 : Hid (SliceIs W2 (.slice na p.name.length nc) p.name) := R1.out.grown hg2
      have JN : Hid (∀ w', W2.grownBy w' none → Calls Tryz.prog 17 #[.slice na p.name.length nc, .slice none 0 0] w' fun e w'' => ∃ v', e = .returned v' ∧ Own w'.heap.size w'' v' p.name ∧ w'.grownBy w'' none) := fun w' hg' => by
        have := joined_gen w' _ (.slice none 0 0) p.name [] (R2.out.grown hg') (sliceIs_nil _) (by simp; omega)
        rw [List.append_nil] at this
        exact this
      have hdec : ((NX.length : Int) == 0) = decide (NX.length = 0) := by
        by_cases h : NX.length = 0 <;> simp [h]
      generalize decide (NX.length = 0) = D0 at *
      generalize hT0 : (p.name, NX) = T0 at *
      have HT1 : Hid (T0.1 = p.name) := by rw [← hT0]; exact rfl
      have HT2 : Hid (T0.2 = NX) := by rw [← hT0]; exact rfl
      have HRES : Hid (RES = if 8 < WL.length then [] else WL) := by
        show _ = _
        rw [HR0.out, HWE2.out]
        by_cases h8 : 8 < WL.length
        · rw [if_pos h8, if_pos h8, if_neg (by decide)]
        · rw [if_neg h8, if_neg h8, if_pos rfl]
      clear HR0
      clear hT0 hWE HWE HNL hy a0 a1 a2 a3 HV R1
      subst hE
      go_wp2_with fail
      go_loopw [9, 10, 11] (fun cv dv i wr => ∃ (m : Nat) (T : FL) (d : Bool), m ≤ l.length ∧ i = .int .i64 (m : Int) ∧ dv = .bool d ∧ (l.take m).foldl (t_putStep T0) ([], D0) = (T, d) ∧ OwnT W2.heap.size wr cv T ∧ W2.grownBy wr none ∧ T.length ≤ 2 * m) (fun _ _ i _ => l.length - (intOf i).toNat)
      case atStart => exact ⟨0, [], D0, by omega, rfl, by first | rfl | rw [hdec], rfl, ownT_nil _ _, grown_refl _ _, by simp⟩
      case round =>
        obtain ⟨m, T, d, hm, rfl, rfl, hfold, hown, hg, hTl⟩ := hrel
        have q0 := hg.cell b0 (by simp)
        by_cases hlt : m < l.length
        · obtain ⟨b, o, rfl, hat⟩ := HV2.out.at m hlt
          obtain ⟨tn, tp, c1, c2, s1, s2⟩ := hat
          have hbw : b < W2.heap.size := cell_lt c1
          have hF : (l.take (m + 1)).foldl (t_putStep T0) ([], D0) = t_putStep T0 (T, d) (l.getD m ([], [])) := by
            rw [List.take_succ_eq_append_getElem hlt, List.foldl_append, hfold]; simp [hlt]
          obtain ⟨hl1, hl2⟩ := HTn.out m hlt
          generalize l.getD m ([], []) = P at *
          have BE : Hid (∀ w', W2.grownBy w' none → Calls Tryz.prog 52 #[tn, .slice na p.name.length nc] w' fun e w'' => e = .returned (.bool (klt P.1 p.name)) ∧ w'' = w') := fun w' hg => before_any w' _ _ _ _ (s1.grown hg) (R2.out.grown hg)
          have SB : Hid (∀ w', W2.grownBy w' none → Calls Tryz.prog 36 #[tn, .slice na p.name.length nc] w' fun e w'' => e = .returned (.bool (decide (P.1 = p.name))) ∧ w'' = w') := fun w' hg => rsame_any w' _ _ _ _ (s1.grown hg) (R2.out.grown hg)
          have JO : Hid (∀ w', W2.grownBy w' none → Calls Tryz.prog 17 #[tn, .slice none 0 0] w' fun e w'' => ∃ v', e = .returned v' ∧ Own w'.heap.size w'' v' P.1 ∧ w'.grownBy w'' none) := fun w' hg' => by
            have := joined_gen w' tn (.slice none 0 0) P.1 [] (s1.grown hg') (sliceIs_nil _) (by simp; omega)
            rw [List.append_nil] at this
            exact this
          have PC : Hid (∀ w', W2.grownBy w' none → Calls Tryz.prog 90 #[tp] w' fun e w'' => ∃ v', e = .returned v' ∧ PairsB 0 w'' v' P.2 ∧ w'.grownBy w'' none) := fun w' hg' => pairsCopy_new w' tp P.2 (s2.grown hg') hl2.many hl2.each
          obtain ⟨ak, ck, rfl⟩ := s1.shape
          obtain ⟨av, cv, rfl⟩ := s2.shape
          obtain ⟨ca, ccap, rfl⟩ := hown.shape
          have e1 := hg.cell c1 (by simp)
          have e2 := hg.cell c2 (by simp)
          have i1 : (m : Int) < (l.length : Int) := by omega
          obtain ⟨z, hz⟩ : ∃ z : Bool, (!d && !klt P.1 p.name) = z := ⟨_, rfl⟩
          have HF2 : Hid ((l.take (m + 1)).foldl (t_putStep T0) ([], D0) = (if P.1 = p.name then (if z = true then (T ++ [T0], true) else (T, d)) else ((if z = true then (T ++ [T0], true) else (T, d)).1 ++ [P], (if z = true then (T ++ [T0], true) else (T, d)).2))) := by
            show _ = _
            rw [hF, ← hz]
            unfold t_putStep
            rw [HT1.out]
            cases d <;> cases klt P.1 p.name <;> simp
          have HOW : Hid (OwnT W2.heap.size wr (.slice ca T.length ccap) T) := hown
          clear s1 s2 hF hfold hl1 hl2 hown
          go_upto_region 14 with fail
          go_cut [59] (fun s59 wx => s59 = .bool z ∧ ∃ n, wx = wr.drewN n)
          case first =>
            cases d with
            | true =>
              have hz' : z = false := by rw [← hz]; rfl
              subst hz'
              clear hz
              go_quiet (fail)
              go_wp2_with fail
              go_meet
              case rel => exact ⟨rfl, nq, rfl⟩
            | false =>
              have hz' : z = !klt P.1 p.name := by rw [← hz]; rfl
              subst hz'
              clear hz
              go_quiet (first | (go_at_call 52; exact Calls.quiet_of_same (BE.out _ (grown_drewN hg _))))
              go_wp2_with fail
              go_meet
              case rel => exact ⟨rfl, nq, rfl⟩
          case rest =>
            obtain ⟨rfl, n1, rfl⟩ := hcut
            have hgd := grown_drewN hg n1
            have HOD : Hid (OwnT W2.heap.size (wr.drewN n1) (.slice ca T.length ccap) T) := HOW.out.grownNone (grown_drewN (grown_refl _ none) n1)
            have e1 := hgd.cell c1 (by simp)
            have e2 := hgd.cell c2 (by simp)
            have q0 := hgd.cell b0 (by simp)
            generalize wr.drewN n1 = wa at *
            clear hg HOW BE hz
            go_upto_if 59 with fail
            go_cut [9, 10] (fun cv dv wx => ∃ (T1 : FL) (d1 : Bool), dv = .bool d1 ∧ (if z = true then (T ++ [T0], true) else (T, d)) = (T1, d1) ∧ T1.length ≤ T.length + 1 ∧ OwnT W2.heap.size wx cv T1 ∧ W2.grownBy wx none)
            case first =>
              cases z with
              | true =>
                go_wp2_with fail
                refine (JN.out _ hgd).mono ?_
                rintro e w3p ⟨xkp, rfl, okp, hg3p⟩
                obtain ⟨xap, xcp, rfl⟩ := okp.shape
                have hgnp := grown_trans hgd hg3p
                have hszp := hgnp.size
                have HO1 : Hid (OwnT W2.heap.size (w3p.alloc (.cells #[.slice xap p.name.length xcp, .slice xa NX.length xc] 51)) (.slice ca T.length ccap) T) := (HOD.out.grownNone hg3p).alloc _
                have HKp : Hid (PartIs 0 (w3p.alloc (.cells #[.slice xap p.name.length xcp, .slice xa NX.length xc] 51)) (.slice xap p.name.length xcp) T0.1) := by
                  rw [HT1.out]; exact (okp.alloc _).part
                have HVp : Hid (PairsB 0 (w3p.alloc (.cells #[.slice xap p.name.length xcp, .slice xa NX.length xc] 51)) (.slice xa NX.length xc) T0.2) := by
                  rw [HT2.out]; exact HNX.out.grown (grown_alloc hgnp _)
                clear okp
                go_wp2_with (at_builtin; refine wpList_append_ten rfl _ _ rfl W2.heap.size (.slice ca T.length ccap) T rfl HO1.out _ _ T0 HKp.out HVp.out w3p.heap.size (heap_alloc_new w3p _) rfl (by omega) (by simp; omega) ?_; intro v2p w4p ho2p hg2p)
                have hgwp : W2.grownBy w4p none := grown_ownT (grown_alloc hgnp _) HO1.out (Nat.le_refl _) hg2p
                go_meet
                case rel => exact ⟨T ++ [T0], true, rfl, rfl, by simp, ho2p, hgwp⟩
              | false =>
                go_wp2_with fail
                go_meet
                case rel => exact ⟨T, d, rfl, rfl, by omega, HOD.out, hgd⟩
            case rest =>
              obtain ⟨T1, d3, rfl, hT1, hT1l, hown1, hg1⟩ := hcut
              have hF3 := HF2.out
              rw [hT1] at hF3
              obtain ⟨ca1, ccap1, rfl⟩ := hown1.shape
              have HO1 : Hid (OwnT W2.heap.size wc (.slice ca1 T1.length ccap1) T1) := hown1
              have g1 := hg1.cell c1 (by simp)
              have g2 := hg1.cell c2 (by simp)
              have k1 := hg1.cell b0 (by simp)
              clear e1 e2 q0 hT1 HOD hgd hown1 HF2
              by_cases he : P.1 = p.name
              · have HS : Hid ((l.take (m + 1)).foldl (t_putStep T0) ([], D0) = (T1, d3)) := by rw [if_pos he] at hF3; exact hF3
                have hs : true = decide (P.1 = p.name) := (decide_eq_true he).symm
                rw [← hs] at SB
                clear he hs hF3
                go_wp2_with fail
                go_quiet (first | (go_at_call 36; exact Calls.quiet_of_same (SB.out _ (grown_drewN hg1 _))))
                go_wp2_with fail
                go_roundw
                case rel =>
                  exact ⟨m + 1, T1, d3, by omega, by go_num, rfl, HS.out, HO1.out.grownNone (grown_drewN (grown_refl _ none) _), grown_drewN hg1 _, by omega⟩
                case measure => simp [intOf]; omega
              · have HS : Hid ((l.take (m + 1)).foldl (t_putStep T0) ([], D0) = (T1 ++ [P], d3)) := by rw [if_neg he] at hF3; exact hF3
                have hs : false = decide (P.1 = p.name) := (decide_eq_false he).symm
                rw [← hs] at SB
                clear he hs hF3
                go_wp2_with fail
                go_quiet (first | (go_at_call 36; exact Calls.quiet_of_same (SB.out _ (grown_drewN hg1 _))))
                have hgq := grown_drewN hg1 nq
                have HOQ : Hid (OwnT W2.heap.size (wc.drewN nq) (.slice ca1 T1.length ccap1) T1) := HO1.out.grownNone (grown_drewN (grown_refl _ none) nq)
                generalize wc.drewN nq = wb at *
                clear hg1 HO1 g1 g2 k1 SB
                have hgd := grown_drew hgq
                have e1 := hgd.cell c1 (by simp)
                have e2 := hgd.cell c2 (by simp)
                have hszb := hgq.size
                have hgdr : wb.grownBy wb.drew none := grown_drew (grown_refl wb none)
                go_upto_region 18 with fail
                go_region_held3 (fun w' => w'.cell? ⟨b, o + m * 2, none⟩ = some (.slice ak P.1.length ck) ∧ w'.cell? ⟨b, o + m * 2 + 1, none⟩ = some (.slice av P.2.length cv))
                  (first | with_reducible exact ⟨e1, e2⟩ | with_reducible exact ⟨f1, f2⟩ | with_reducible exact ⟨f3, f4⟩ | with_reducible exact ⟨(World.grownBy_alloc _ _ none).cell f3 (by simp), (World.grownBy_alloc _ _ none).cell f4 (by simp)⟩ | with_reducible exact ⟨f5, f6⟩)
                  (first
                    | (go_at_call 17; with_reducible refine (JO.out _ hgd).mono ?_; rintro e w2 ⟨v2, rfl, ho2, hg2⟩; obtain ⟨ya, yc, rfl⟩ := ho2.shape; have hgd2 := grown_trans hgd hg2; have hgr2 := grown_trans hgdr hg2; have f1 := hgd2.cell c1 (by simp); have f2 := hgd2.cell c2 (by simp))
                    | (go_at_call 90; with_reducible refine (PC.out _ hgd2).mono ?_; rintro e w3 ⟨v3, rfl, ho3, hg3⟩; obtain ⟨ta, tc, rfl⟩ := ho3.shape; have hgd3 := grown_trans hgd2 hg3; have hgr3 := grown_trans hgr2 hg3; have f3 := hgd3.cell c1 (by simp); have f4 := hgd3.cell c2 (by simp))
                    | (refine step_append_ten (by rfl) _ _ (by rfl) W2.heap.size (.slice ca1 T1.length ccap1) T1 (by rfl) ((HOQ.out.grownNone hgr3).alloc _) (.slice ya P.1.length yc) (.slice ta P.2.length tc) P ((ho2.grownNone hg3).alloc _).part ((ho3.up _).grown (World.grownBy_alloc _ _ _)) w3.heap.size (heap_alloc_new w3 _) (by rfl) (by omega) (by have := hgd3.size; simp; omega) ?_
                       intro v4 w4 ho4 hg4
                       have f5 := hg4.cell ((World.grownBy_alloc _ _ none).cell f3 (by simp)) (fun e => absurd (HOQ.out.lt _ e.symm).1 (Nat.not_le_of_lt hbw))
                       have f6 := hg4.cell ((World.grownBy_alloc _ _ none).cell f4 (by simp)) (fun e => absurd (HOQ.out.lt _ e.symm).1 (Nat.not_le_of_lt hbw))))
                have hgw : W2.grownBy w4 none := grown_ownT (grown_alloc hgd3 _) ((HOQ.out.grownNone hgr3).alloc _) (Nat.le_refl _) hg4
                have HO4 : Hid (OwnT W2.heap.size w4 v4 (T1 ++ [P])) := ho4
                clear e1 e2 f1 f2 f3 f4 f5 f6 ho2 ho3 ho4 hg4 hgd3 hgd2 hgd hg3 hg2 JO PC c1 c2 HOQ hgr2 hgr3 hgdr
                go_wp2_with fail
                go_roundw
                case rel => exact ⟨m + 1, T1 ++ [P], d3, by omega, by go_num, rfl, HS.out, HO4.out, hgw, by simp; omega⟩
                case measure => simp [intOf]; omega
        · obtain rfl : m = l.length := by omega
          rw [List.take_length] at hfold
          have hput := HFIN'.out
          rw [hfold] at hput
          have HPUT : Hid (t_putEnd T0 (T, d) = WL) := hput
          clear hput hfold
          obtain ⟨ca, ccap, rfl⟩ := hown.shape
          cases d with
          | true =>
            have HPL : Hid (T = WL) := HPUT.out
            by_cases hfull : 8 < T.length
            · have t9 : (T.length : Int) > 8 := by omega
              have HE : Hid (WE = 11) := by show _ = _; rw [HWE2.out, ← HPL.out, if_pos hfull]
              have HE2 : Hid (RES = []) := by show _ = _; rw [HRES.out, ← HPL.out, if_pos hfull]
              go_wp2
              go_ret2
              exact ⟨_, by rw [HE.out]; rfl, by rw [HE2.out]; exact tensIs_nil _, grown_trans hgW2 hg⟩
            · have t9 : ¬ (T.length : Int) > 8 := by omega
              have HE : Hid (WE = 0) := by show _ = _; rw [HWE2.out, ← HPL.out, if_neg hfull]
              have HE2 : Hid (RES = T) := by show _ = _; rw [HRES.out, ← HPL.out, if_neg hfull]
              go_wp2
              go_ret2
              exact ⟨_, by rw [HE.out]; rfl, by rw [HE2.out]; exact hown.list, grown_trans hgW2 hg⟩
          | false =>
            have HPL : Hid (T ++ [T0] = WL) := HPUT.out
            go_wp2_with fail
            refine (JN.out _ hg).mono ?_
            rintro e w3p ⟨xkp, rfl, okp, hg3p⟩
            obtain ⟨xap, xcp, rfl⟩ := okp.shape
            have hgnp := grown_trans hg hg3p
            have hszp := hgnp.size
            have HO1 : Hid (OwnT W2.heap.size (w3p.alloc (.cells #[.slice xap p.name.length xcp, .slice xa NX.length xc] 51)) (.slice ca T.length ccap) T) := (hown.grownNone hg3p).alloc _
            have HKp : Hid (PartIs 0 (w3p.alloc (.cells #[.slice xap p.name.length xcp, .slice xa NX.length xc] 51)) (.slice xap p.name.length xcp) T0.1) := by
              rw [HT1.out]; exact (okp.alloc _).part
            have HVp : Hid (PairsB 0 (w3p.alloc (.cells #[.slice xap p.name.length xcp, .slice xa NX.length xc] 51)) (.slice xa NX.length xc) T0.2) := by
              rw [HT2.out]; exact HNX.out.grown (grown_alloc hgnp _)
            clear okp hown
            by_cases hfull : 8 < (T ++ [T0]).length
            · have hfull2 : 8 ≤ T.length := by simp at hfull; omega
              have t8 : (8 : Int) ≤ (T.length : Int) := by omega
              have t9 : (8 : Int) < (T.length : Int) + 1 := by omega
              have HE : Hid (WE = 11) := by show _ = _; rw [HWE2.out, ← HPL.out, if_pos hfull]
              have HE2 : Hid (RES = []) := by show _ = _; rw [HRES.out, ← HPL.out, if_pos hfull]
              clear hfull
              go_wp2_with (at_builtin; refine wpList_append_ten rfl _ _ rfl W2.heap.size (.slice ca T.length ccap) T rfl HO1.out _ _ T0 HKp.out HVp.out w3p.heap.size (heap_alloc_new w3p _) rfl (by omega) (by simp; omega) ?_; intro v2z w4z ho2z hg2z; obtain ⟨va9, vc9, rfl⟩ := ho2z.shape)
              have hgwz : W2.grownBy w4z none := grown_ownT (grown_alloc hgnp _) HO1.out (Nat.le_refl _) hg2z
              go_wp2
              go_ret2
              exact ⟨_, by rw [HE.out]; rfl, by rw [HE2.out]; exact tensIs_nil _, grown_trans hgW2 hgwz⟩
            · have hfull2 : T.length < 8 := by simp at hfull; omega
              have t8 : (T.length : Int) < 8 := by omega
              have t9 : (T.length : Int) + 1 ≤ 8 := by omega
              have HE : Hid (WE = 0) := by show _ = _; rw [HWE2.out, ← HPL.out, if_neg hfull]
              have HE2 : Hid (RES = T ++ [T0]) := by show _ = _; rw [HRES.out, ← HPL.out, if_neg hfull]
              clear hfull
              go_wp2_with (at_builtin; refine wpList_append_ten rfl _ _ rfl W2.heap.size (.slice ca T.length ccap) T rfl HO1.out _ _ T0 HKp.out HVp.out w3p.heap.size (heap_alloc_new w3p _) rfl (by omega) (by simp; omega) ?_; intro v2z w4z ho2z hg2z; obtain ⟨va9, vc9, rfl⟩ := ho2z.shape)
              have hgwz : W2.grownBy w4z none := grown_ownT (grown_alloc hgnp _) HO1.out (Nat.le_refl _) hg2z
              go_wp2
              go_ret2
              exact ⟨_, by rw [HE.out]; rfl, by rw [HE2.out]; have := ho2z.list; rw [List.length_append] at this; exact this, grown_trans hgW2 hgwz⟩
    · have hz : (NE != 0) = true := by simpa using hE
      have e1 := HWE.out
      rw [if_neg hE] at e1
      subst e1
      have HRN : Hid (RES = []) := by show _ = _; rw [HR0.out, if_neg hE]
      clear HWE HNL HFIN' hy HR0
      go_wp2
      go_ret2
      exact ⟨_, rfl, by rw [HRN.out]; exact tensIs_nil _, hgW2⟩
end Go.Proofs.YtljdconhplgipaaGreat

/-
  The walk of the document's answer to P5.4: Applied.
-/
namespace Go.Proofs.YtljdconhplgipaaGreat
open Go.RowKit
theorem applied_long {l : FL} {ws : List Plc} (h : forestE l = 0) (hl : 10 < ws.length) : appliedE l ws = 1 ∧ appliedF l ws = [] := by
  have h1 : appliedE l ws = 1 := by rw [appliedE, if_pos h, if_pos hl]
  exact ⟨h1, by rw [appliedF, if_neg (by rw [h1]; decide)]⟩
theorem applied_bad {l : FL} {ws : List Plc} (h : forestE l ≠ 0) : appliedE l ws = forestE l ∧ appliedF l ws = [] := by
  have h1 : appliedE l ws = forestE l := by rw [appliedE, if_neg h]
  exact ⟨h1, by rw [appliedF, if_neg (by rw [h1]; exact h)]⟩
theorem drop_cons (ws : List Plc) (m : Nat) (h : m < ws.length) : ws.drop m = ws.getD m noPlc :: ws.drop (m + 1) := by
  rw [List.drop_eq_getElem_cons h]; simp [h]
set_option maxRecDepth 100000 in
set_option maxHeartbeats 2000000 in
theorem applied_any (w : World) (v u : Value) (l : FL) (ws : List Plc) (hv : TensIs w v l) (hu : WritesIs w u ws) :
    Calls Tryz.prog 51 #[v, u] w fun e w' => ∃ x, e = .returned (.tuple #[x, .int .i64 (appliedE l ws)]) ∧ TensIs w' x (appliedF l ws) ∧ w.grownBy w' none := by
  obtain ⟨a, cap, rfl⟩ := hv.shape
  obtain ⟨ua, uc, rfl⟩ := hu.shape
  have FF : Hid (Calls Tryz.prog 73 #[.slice a l.length cap] w fun e w' => e = .returned (.int .i64 (forestE l)) ∧ w.grownBy w' none) := forestFault_any w _ l hv
  by_cases hE : forestE l = 0
  · have hF := (forest_iff l).1 hE
    rw [hE] at FF
    by_cases hL : 10 < ws.length
    · obtain ⟨e1, e2⟩ := applied_long hE hL
      rw [e1, e2]
      have t1 : (ws.length : Int) > 10 := by omega
      clear e1 e2 hE hF hv hu
      go_enter Tryz.func51, Tryz.ntmps51
      go_wp2_with fail
      refine FF.out.mono ?_
      rintro e w1 ⟨rfl, hg1⟩
      go_wp2
      go_ret2
      exact ⟨_, rfl, tensIs_nil _, hg1⟩
    · have t1 : ¬ (ws.length : Int) > 10 := by omega
      have hE0 : appliedE l ws = applyE l ws := by rw [appliedE, if_pos hE, if_neg hL]
      have HAE : Hid (appliedE l ws = applyE l ws) := hE0
      have HAF : Hid (appliedF l ws = if applyE l ws = 0 then applyL l ws else []) := by show _ = _; rw [appliedF, hE0]
      have FC : Hid (∀ w', w.grownBy w' none → Calls Tryz.prog 74 #[.slice a l.length cap] w' fun e w'' => ∃ v', e = .returned v' ∧ OwnT w'.heap.size w'' v' l ∧ w'.grownBy w'' none) := fun w' hg => forestCopy_any w' _ l (hv.grown hg) hF.fits
      have HF : Hid (Forest l) := hF
      have HU : Hid (WritesIs w (.slice ua ws.length uc) ws) := hu
      generalize appliedE l ws = AE at *
      generalize appliedF l ws = AF at *
      clear hE hF hv hu hE0
      go_enter Tryz.func51, Tryz.ntmps51
      go_wp2_with fail
      refine FF.out.mono ?_
      rintro e w1 ⟨rfl, hg1⟩
      go_wp2_with fail
      refine (FC.out _ hg1).mono ?_
      rintro e w2 ⟨v2, rfl, ho2, hg2⟩
      have hg02 := grown_trans hg1 hg2
      have HO2 : Hid (TensIs w2 v2 l) := ho2.list
      clear ho2 FC FF
      go_wp2_with fail
      go_loopw [7, 8] (fun cv i wr => ∃ (m : Nat) (L : FL), m ≤ ws.length ∧ i = .int .i64 (m : Int) ∧ TensIs wr cv L ∧ Forest L ∧ applyE l ws = applyE L (ws.drop m) ∧ applyL l ws = applyL L (ws.drop m) ∧ w.grownBy wr none) (fun _ i _ => ws.length - (intOf i).toNat)
      case atStart => exact ⟨0, l, by omega, rfl, HO2.out, HF.out, rfl, rfl, hg02⟩
      case round =>
        clear hg1 hg2 hg02 HO2 HF
        obtain ⟨m, L, hm, rfl, hcv, hFL, h1, h2, hg⟩ := hrel
        obtain ⟨la, lc, rfl⟩ := hcv.shape
        by_cases hlt : m < ws.length
        · obtain ⟨b, o, rfl, hat⟩ := HU.out.at m hlt
          obtain ⟨vn, vk, vv, c1, c2, c3, c4, s1, s2, s3⟩ := hat.grown hg
          rw [drop_cons ws m hlt] at h1 h2
          generalize ws.getD m noPlc = P at *
          have WF : Hid (Calls Tryz.prog 72 #[.agg #[vn, vk, .bool P.gone, vv]] wr fun e w' => e = .returned (.int .i64 (writeE P)) ∧ wr.grownBy w' none) := writeFault_any wr _ P ⟨vn, vk, vv, rfl, s1, s2, s3⟩
          have WR : Hid (writeE P = 0 → ∀ w', wr.grownBy w' none → Calls Tryz.prog 75 #[.slice la L.length lc, .agg #[vn, vk, .bool P.gone, vv]] w' fun e w'' => ∃ x, e = .returned (.tuple #[x, .int .i64 (writtenE L P)]) ∧ TensIs w'' x (if writtenE L P = 0 then writtenL L P else []) ∧ w'.grownBy w'' none) := fun hw w' hg' => written_any w' _ _ L P (hcv.grown hg') ⟨vn, vk, vv, rfl, s1.grown hg', s2.grown hg', s3.grown hg'⟩ hFL hw
          have HE1 : Hid (writeE P ≠ 0 → applyE l ws = writeE P) := fun h => by rw [h1, applyE, if_neg h]
          have HE2 : Hid (writeE P = 0 → writtenE L P ≠ 0 → applyE l ws = writtenE L P) := fun h h' => by rw [h1, applyE, if_pos h, if_neg h']
          have HE3 : Hid (writeE P = 0 → writtenE L P = 0 → applyE l ws = applyE (writtenL L P) (ws.drop (m + 1)) ∧ applyL l ws = applyL (writtenL L P) (ws.drop (m + 1))) := fun h h' => ⟨by rw [h1, applyE, if_pos h, if_pos h'], by rw [h2, applyL]⟩
          have HFN : Hid (writeE P = 0 → writtenE L P = 0 → Forest (writtenL L P)) := fun h h' => written_forest hFL h h'
          obtain ⟨na, nc, rfl⟩ := s1.shape
          obtain ⟨ka, kc, rfl⟩ := s2.shape
          obtain ⟨va, vc, rfl⟩ := s3.shape
          have i1 : (m : Int) < (ws.length : Int) := by omega
          generalize writeE P = PE at *
          generalize writtenE L P = WE at *
          generalize writtenL L P = WL at *
          clear hat s1 s2 s3 h1 h2 hcv hFL
          go_wp2_with fail
          refine WF.out.mono ?_
          rintro e w3 ⟨rfl, hg3⟩
          have hgw3 := grown_trans hg hg3
          by_cases hP : PE = 0
          · have d1 := hg3.cell c1 (by simp)
            have d2 := hg3.cell c2 (by simp)
            have d3 := hg3.cell c3 (by simp)
            have d4 := hg3.cell c4 (by simp)
            have WR2 := WR.out hP
            have HE2' : Hid (WE ≠ 0 → applyE l ws = WE) := HE2.out hP
            have HE3' : Hid (WE = 0 → applyE l ws = applyE WL (ws.drop (m + 1)) ∧ applyL l ws = applyL WL (ws.drop (m + 1))) := HE3.out hP
            have HFN' : Hid (WE = 0 → Forest WL) := HFN.out hP
            have WR3 : Hid (∀ w', wr.grownBy w' none → Calls Tryz.prog 75 #[.slice la L.length lc, .agg #[.slice na P.name.length nc, .slice ka P.key.length kc, .bool P.gone, .slice va P.value.length vc]] w' fun e w'' => ∃ x, e = .returned (.tuple #[x, .int .i64 WE]) ∧ TensIs w'' x (if WE = 0 then WL else []) ∧ w'.grownBy w'' none) := WR2
            clear WR WR2 HE1 HE2 HE3 HFN c1 c2 c3 c4 WF
            subst hP
            go_wp2_with fail
            refine (WR3.out _ hg3).mono ?_
            rintro e w4 ⟨x, rfl, hx, hg4⟩
            have hgw4 := grown_trans hgw3 hg4
            by_cases hW : WE = 0
            · rw [if_pos hW] at hx
              obtain ⟨e1, e2⟩ := HE3'.out hW
              have HFW : Hid (Forest WL) := HFN'.out hW
              have HX : Hid (TensIs w4 x WL) := hx
              have HE4 : Hid (applyE l ws = applyE WL (ws.drop (m + 1))) := e1
              have HE5 : Hid (applyL l ws = applyL WL (ws.drop (m + 1))) := e2
              clear e1 e2 HE2' HE3' HFN' hx d1 d2 d3 d4 WR3
              subst hW
              go_wp2_with fail
              go_roundw
              case rel => exact ⟨m + 1, WL, by omega, by go_num, HX.out, HFW.out, HE4.out, HE5.out, hgw4⟩
              case measure => simp [intOf]; omega
            · have hz : (WE != 0) = true := by simpa using hW
              have HA1 : Hid (AE = WE) := by show _ = _; rw [HAE.out, HE2'.out hW]
              have HA2 : Hid (AF = []) := by show _ = _; rw [HAF.out, if_neg (by rw [HE2'.out hW]; exact hW)]
              clear HAE HAF HE2' HE3' HFN' hx d1 d2 d3 d4 WR3 hW
              go_wp2
              go_ret2
              exact ⟨_, by rw [HA1.out]; rfl, by rw [HA2.out]; exact tensIs_nil _, hgw4⟩
          · have hz : (PE != 0) = true := by simpa using hP
            have HA1 : Hid (AE = PE) := by show _ = _; rw [HAE.out, HE1.out hP]
            have HA2 : Hid (AF = []) := by show _ = _; rw [HAF.out, if_neg (by rw [HE1.out hP]; exact hP)]
            clear HAE HAF HE1 HE2 HE3 HFN WR c1 c2 c3 c4 WF hP
            go_wp2
            go_ret2
            exact ⟨_, by rw [HA1.out]; rfl, by rw [HA2.out]; exact tensIs_nil _, hgw3⟩
        · obtain rfl : m = ws.length := by omega
          rw [List.drop_length] at h1 h2
          have HA1 : Hid (AE = 0) := by show _ = _; rw [HAE.out, h1]; rfl
          have HA2 : Hid (AF = L) := by show _ = _; rw [HAF.out, if_pos (by rw [h1]; rfl), h2]; rfl
          have HX : Hid (TensIs wr (.slice la L.length lc) L) := hcv
          clear HAE HAF h1 h2 hcv hFL
          go_wp2
          go_ret2
          exact ⟨_, by rw [HA1.out]; rfl, by rw [HA2.out]; exact HX.out, hg⟩
  · obtain ⟨e1, e2⟩ := applied_bad (ws := ws) hE
    rw [e1, e2]
    generalize forestE l = E at *
    have hz : (E != 0) = true := by simpa using hE
    have hz2 : (E == 0) = false := by simpa using hE
    clear e1 e2 hv hu
    go_enter Tryz.func51, Tryz.ntmps51
    go_wp2_with fail
    refine FF.out.mono ?_
    rintro e w1 ⟨rfl, hg1⟩
    go_wp2
    go_ret2
    exact ⟨_, rfl, tensIs_nil _, hg1⟩
end Go.Proofs.YtljdconhplgipaaGreat
