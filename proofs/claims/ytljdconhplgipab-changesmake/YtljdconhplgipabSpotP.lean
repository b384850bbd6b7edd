/-
  history.spots, as it landed: each name and key of the forests, once, by names, then by keys.
-/
import Derived.Test.YtljdconhplgipabPart5
import Derived.Test.YtljdconhplgipabPart9
import Derived.Test.YtljdconhplgipabSortP
import Derived.Test.YtljdconhplgipabCompP
import Derived.Test.YtljdconhplgipabCloneP
import Derived.Deep.RegionHeld3
import Derived.Laws.EntriesVeiled
namespace Go.Proofs.Ytljdconhplgipab
open Go.RowKit
/-- append(v, x) of one write, at a step of a region that draws its order. -/
theorem step_append_wrS {w : World} {ops : Array Oper} {o : Oper} {a : Act} {K : Act → World → Prop} {Q : Exit → Act → World → Prop} {E : Prop} (hgd : o.guard = none) (s x : Operand)
    (ho : o.op = .call { callee := .builtin .append, args := #[s, x], argTypes := #[26, 26] }) (rb : Nat) (v : Value) (l : List Plc) (hs : a.eval s = v) (hown : OwnV rb 0 w v l)
    (vn vk vv : Value) (p : Plc) (h1 : PartIs 0 w vn p.name) (h2 : PartIs 0 w vk p.key) (h3 : PartIs 0 w vv p.value) (nb : Nat) (hb : w.heap[nb]? = some (.cells #[vn, vk, .bool p.gone, vv] 35))
    (hx : a.eval x = .slice (some ⟨nb, 0, none⟩) 1 1) (hl : (l.length + 1) * 80 ≤ 140737488355328) (hbase : rb ≤ w.heap.size)
    (h : ∀ v' w', OwnV rb 0 w' v' (l ++ [p]) → w.grownBy w' v.ownBlock → K (a.put o.dst v') w') : if Region.wanted o (yielded ops a.tmps) = true then Oper.wp Try.prog o a w K Q else E := by
  have hw : Region.wanted o (yielded ops a.tmps) = true := by simp [Region.wanted, hgd]
  rw [if_pos hw]
  obtain ⟨i0, hi, hz0, hz1, hz2⟩ := info_parts infoWr
  have hrow : v.ownBlock = none ∨ ∃ g cur t fz, v.ownBlock = some g ∧ 0 ≤ g ∧ w.heap[g]? = some (.cells cur t fz) ∧ t ≠ 5 := by
    rcases hown.row with h | ⟨g, cur, fz, e, _, h⟩
    · exact .inl h
    · exact .inr ⟨g, cur, _, fz, e, Nat.zero_le _, h, wrT5⟩
  obtain ⟨us, hul, hr, hp⟩ := hown
  refine wp_append_lies w s x 26 ho rb 35 i0 (.agg #[.slice none 0 0, .slice none 0 0, .bool false, .slice none 0 0]) 4 80 Try.underlying26 hi hz0 hz1 hz2 rfl (by decide) v l.length (flatW us) hs hr ⟨nb, 0, none⟩ 1 1 (flatW [(p, vn, vk, vv)]) hx rfl (World.news_of_block (cs := #[vn, vk, .bool p.gone, vv]) hb) ?_ (by omega) (by unfold maxLen; omega) hl hbase _ rfl ?_
  · intro u hu
    simp only [flatW, List.flatMap_cons, List.flatMap_nil, List.append_nil, List.mem_cons, List.not_mem_nil, or_false] at hu
    rcases hu with rfl | rfl | rfl | rfl
    · exact part_oneCell h1
    · exact part_oneCell h2
    · rfl
    · exact part_oneCell h3
  · intro g cap w' q1 q2 _ _
    refine h _ w' ⟨us ++ [(p, vn, vk, vv)], by simp [hul], ?_, ?_⟩ q2
    · rw [flatW_append, List.length_append]; exact q1
    · intro y hy
      rcases List.mem_append.1 hy with hy | hy
      · exact ⟨(hp y hy).1.keptT q2 hrow, (hp y hy).2.1.keptT q2 hrow, (hp y hy).2.2.keptT q2 hrow⟩
      · simp only [List.mem_cons, List.not_mem_nil, or_false] at hy
        subst hy
        exact ⟨h1.keptT q2 hrow, h2.keptT q2 hrow, h3.keptT q2 hrow⟩
theorem tree_key16 {l : PL} (h : Tree l) (k : Nat) (hk : k < l.length) : (l.getD k ([], [])).1.length ≤ 16 := by
  have := (h.pairs l[k] (List.getElem_mem hk)).1
  rw [show l[k] = l.getD k ([], []) by simp [hk]] at this
  exact this.2
theorem tenTW : (61 : Nat) ≠ 35 := by decide
theorem alloc_namedS (w : World) (o : Obj) : ∃ W : World, Hid (W = w.alloc o) ∧ w.grownBy W none ∧ Hid (W.heap[w.heap.size]? = some o) := ⟨w.alloc o, rfl, World.grownBy_alloc _ _ _, heap_alloc_new w o⟩
theorem OwnV.alloc {rb pb : Nat} {w : World} {v : Value} {l : List Plc} (h : OwnV rb pb w v l) (o : Obj) : OwnV rb pb (w.alloc o) v l := h.grownNone (World.grownBy_alloc _ _ _)
set_option maxRecDepth 100000 in
set_option maxHeartbeats 4000000 in
theorem spots_any (w : World) (x : Value) (n : Nat) (g : Nat → FL) (hx : ForsIs w x n g) (hn : n ≤ 1000) (hF : ∀ m, Forest (g m)) :
    Calls Try.prog 17 #[x] w fun e w' => ∃ y, e = .returned y ∧ (∃ s, WritesIs w' y (compactL s) ∧ Sorted s ∧ s.Perm (spN g n)) ∧ w.grownBy w' none := by
  obtain ⟨b, rfl, hcs⟩ := hx
  have HC : Hid (∀ wr, w.grownBy wr none → ∀ k, k < n → ∃ u, wr.cell? ⟨b, k, none⟩ = some u ∧ TensIs wr u (g k)) := fun wr hg k hk => by
    obtain ⟨u, h1, h2⟩ := hcs k hk
    exact ⟨u, hg.cell h1 (by simp), h2.grown hg⟩
  have HFo : Hid (∀ m, Forest (g m)) := hF
  clear hcs hF
  go_enter Try.func17, Try.ntmps17
  go_wp2_with fail
  go_loopw [3, 13] (fun o i wr => ∃ m : Nat, i = .int .i64 (m : Int) ∧ m ≤ n ∧ OwnV w.heap.size 0 wr o (spN g m) ∧ w.grownBy wr none) (fun _ i _ => n - (intOf i).toNat)
  case atStart => exact ⟨0, rfl, by omega, ownV_nil _ _ _, grown_refl _ _⟩
  case round =>
    obtain ⟨m, rfl, hm, ho, hg⟩ := hrel
    obtain ⟨oa, ocap, rfl⟩ := ho.shape
    by_cases hmn : m < n
    · have i1 : (m : Int) < (n : Int) := by omega
      obtain ⟨u, u0w, hu⟩ := HC.out w (grown_refl _ _) m hmn
      have u0 := hg.cell u0w (by simp)
      obtain ⟨fa, fc, rfl⟩ := hu.shape
      have HU : Hid (TensIs w (.slice fa (g m).length fc) (g m)) := hu
      have HFm : Hid (Forest (g m)) := HFo.out m
      have hf8 := (HFo.out m).room
      have HO : Hid (OwnV w.heap.size 0 wr (.slice oa (spN g m).length ocap) (spT g m 0)) := by show OwnV _ _ _ _ _; rw [spT_zero]; exact ho
      have HE1 : Hid (spT g m (g m).length = spN g (m + 1)) := spT_end g m
      obtain ⟨L1, hL1⟩ : ∃ L1, L1 = (spN g m).length := ⟨_, rfl⟩
      rw [← hL1] at HO ⊢
      clear hu ho hL1 u0w
      obtain ⟨FLn, hFL⟩ : ∃ FLn, FLn = (g m).length := ⟨_, rfl⟩
      have HFL : Hid (FLn = (g m).length) := hFL
      rw [← hFL] at u0 HU hf8 HE1
      clear hFL
      go_wp2_with fail
      clear u0
      go_loopw [3, 19] (fun o i wr => ∃ t : Nat, i = .int .i64 (t : Int) ∧ t ≤ FLn ∧ OwnV w.heap.size 0 wr o (spT g m t) ∧ w.grownBy wr none) (fun _ i _ => FLn - (intOf i).toNat)
      case atStart => exact ⟨0, rfl, by omega, HO.out, hg⟩
      case round =>
        obtain ⟨t, rfl, ht, ho2, hg2⟩ := hrel
        obtain ⟨oa2, ocap2, rfl⟩ := ho2.shape
        by_cases htn : t < FLn
        · have i2 : (t : Int) < (FLn : Int) := by omega
          have htg : t < (g m).length := by rw [← HFL.out]; exact htn
          obtain ⟨tb, tof, rfl, hat⟩ := HU.out.at t htg
          obtain ⟨vn, vp, c1w, c2w, s1, s2⟩ := hat
          have c1 := hg2.cell c1w (by simp)
          have c2 := hg2.cell c2w (by simp)
          have hTn := HFm.out.tens (g m)[t] (List.getElem_mem htg)
          rw [show (g m)[t] = (g m).getD t ([], []) by simp [htg]] at hTn
          have HE2 : Hid (spK g m t ((g m).getD t ([], [])).2.length = spT g m (t + 1)) := spK_end g m t htg
          have HKN : Hid (∀ k, k < ((g m).getD t ([], [])).2.length → spK g m t (k + 1) = spK g m t k ++ [⟨((g m).getD t ([], [])).1, (((g m).getD t ([], [])).2.getD k ([], [])).1, [], false⟩]) := fun k hk => spK_next g m t k hk
          have HKL : Hid (∀ k, k ≤ 60 → (spK g m t k).length ≤ 1000000) := fun k hk => spK_len g HFo.out m t k (by omega) hk
          have hO2 : OwnV w.heap.size 0 wr (.slice oa2 (spT g m t).length ocap2) (spK g m t 0) := by rw [spK_zero]; exact ho2
          have hp60 := hTn.2.2.room
          have hn8 : ((g m).getD t ([], [])).1.length ≤ 8 := hTn.1.2
          have HK16 : Hid (∀ k, k < ((g m).getD t ([], [])).2.length → (((g m).getD t ([], [])).2.getD k ([], [])).1.length ≤ 16) := fun k hk => tree_key16 hTn.2.2 k hk
          generalize (g m).getD t ([], []) = TN at *
          obtain ⟨L2, hL2⟩ : ∃ L2, L2 = (spT g m t).length := ⟨_, rfl⟩
          rw [← hL2] at hO2 ⊢
          have HO2 : Hid (OwnV w.heap.size 0 wr (.slice oa2 L2 ocap2) (spK g m t 0)) := hO2
          have HNm : Hid (SliceIs w vn TN.1) := s1
          have HPs : Hid (PairsIs w vp TN.2) := s2
          obtain ⟨na, nc, rfl⟩ := s1.shape
          obtain ⟨pa, pc, rfl⟩ := s2.shape
          obtain ⟨W1, HW1, hgW1, B1⟩ := alloc_namedS wr (.cells #[.slice na TN.1.length nc, .slice pa TN.2.length pc] 61)
          obtain ⟨q0, q1, _, _⟩ := pair_room (grown_refl W1 none) B1.out
          clear hO2 ho2 hL2 s1 s2 hTn c1w c2w
          go_upto_region 8 with fail
          rw [← HW1.out]
          clear c1 c2
          obtain ⟨TB, hTB⟩ : ∃ TB, TB = wr.heap.size := ⟨_, rfl⟩
          rw [← hTB] at B1 q0 q1 ⊢
          have HTB : Hid (TB = wr.heap.size) := hTB
          clear hTB
          go_wp2_with fail
          go_loopw [3, 26] (fun o i wr => ∃ k : Nat, i = .int .i64 (k : Int) ∧ k ≤ TN.2.length ∧ OwnV w.heap.size 0 wr o (spK g m t k) ∧ wr.heap[TB]? = some (.cells #[.slice na TN.1.length nc, .slice pa TN.2.length pc] 61) ∧ w.grownBy wr none) (fun _ i _ => TN.2.length - (intOf i).toNat)
          case atStart => exact ⟨0, rfl, by omega, HO2.out.grownNone hgW1, B1.out, grown_trans hg2 hgW1⟩
          case round =>
            clear q0 q1
            obtain ⟨k, rfl, hk, ho3, hB3, hg3⟩ := hrel
            obtain ⟨oa3, ocap3, rfl⟩ := ho3.shape
            by_cases hkn : k < TN.2.length
            · have i3 : (k : Int) < (TN.2.length : Int) := by omega
              obtain ⟨qb, qo, rfl, hpat⟩ := HPs.out.at k hkn
              obtain ⟨vk, vv, d1w, d2w, r1, r2⟩ := hpat
              have d1 := hg3.cell d1w (by simp)
              have d2 := hg3.cell d2w (by simp)
              have hkl := HKL.out k (by omega)
              have hk16 := HK16.out k hkn
              have HT : Hid (spK g m t (k + 1) = spK g m t k ++ [⟨TN.1, (TN.2.getD k ([], [])).1, [], false⟩]) := HKN.out k hkn
              generalize TN.2.getD k ([], []) = PR at *
              generalize spK g m t k = X at *
              have CN : Hid (∀ w', w.grownBy w' none → Calls Try.prog 27 #[.slice na TN.1.length nc] w' fun e w'' => ∃ v', e = .returned v' ∧ Own w'.heap.size w'' v' TN.1 ∧ w'.grownBy w'' none) := fun w' h => clone_any w' _ TN.1 (HNm.out.grown h) (by omega)
              have CK : Hid (∀ w', w.grownBy w' none → Calls Try.prog 27 #[vk] w' fun e w'' => ∃ v', e = .returned v' ∧ Own w'.heap.size w'' v' PR.1 ∧ w'.grownBy w'' none) := fun w' h => clone_any w' vk PR.1 (r1.grown h) (by omega)
              obtain ⟨ka, kc, rfl⟩ := r1.shape
              obtain ⟨va, vc, rfl⟩ := r2.shape
              obtain ⟨W2, HW2, hgW2, B2⟩ := alloc_namedS wr (.cells #[.slice ka PR.1.length kc, .slice va PR.2.length vc] 69)
              obtain ⟨p0, p1, _, _⟩ := pair_room (grown_refl W2 none) B2.out
              have BT2 : Hid (W2.heap[TB]? = some (.cells #[.slice na TN.1.length nc, .slice (some ⟨qb, qo, none⟩) TN.2.length pc] 61)) := pair_old hgW2 hB3
              obtain ⟨t0, _, _, _⟩ := pair_room (grown_refl W2 none) BT2.out
              have HOW : Hid (OwnV w.heap.size 0 wr (.slice oa3 X.length ocap3) X) := ho3
              have hsz3 := hg3.size
              have HB3 : Hid (wr.heap[TB]? = some (.cells #[.slice na TN.1.length nc, .slice (some ⟨qb, qo, none⟩) TN.2.length pc] 61)) := hB3
              clear r1 r2 d1w d2w ho3 hB3
              go_upto_region 11 with fail
              rw [← HW2.out]
              clear d1 d2
              obtain ⟨QB, hQB⟩ : ∃ QB, QB = wr.heap.size := ⟨_, rfl⟩
              rw [← hQB] at B2 p0 p1 ⊢
              have HQB : Hid (QB = wr.heap.size) := hQB
              clear hQB
              have e1 : W2.drew.cell? ⟨TB, 0, none⟩ = some (.slice na TN.1.length nc) := t0
              have e2 : W2.drew.cell? ⟨QB, 0, none⟩ = some (.slice ka PR.1.length kc) := p0
              have hgd : wr.grownBy W2.drew none := grown_drew hgW2
              go_region_held3 (fun w' => w'.cell? ⟨TB, 0, none⟩ = some (.slice na TN.1.length nc) ∧ w'.cell? ⟨QB, 0, none⟩ = some (.slice ka PR.1.length kc))
                (first | exact ⟨e1, e2⟩ | exact ⟨f1, f2⟩ | exact ⟨f3, f4⟩ | exact ⟨(World.grownBy_alloc _ _ none).cell f3 (by simp), (World.grownBy_alloc _ _ none).cell f4 (by simp)⟩ | exact ⟨f5, f6⟩)
                (first
                  | (go_at_call_of 27 (Value.slice na TN.1.length nc); refine (CN.out _ (grown_trans hg3 hgd)).mono ?_; rintro e w2 ⟨v2, rfl, ho2, hg2'⟩; obtain ⟨ka2, kc2, rfl⟩ := ho2.shape; have f1 := hg2'.cell e1 (by simp); have f2 := hg2'.cell e2 (by simp); have hgd2 := grown_trans hgd hg2')
                  | (go_at_call_of 27 (Value.slice ka PR.1.length kc); refine (CK.out _ (grown_trans hg3 hgd2)).mono ?_; rintro e w3 ⟨v3, rfl, ho3, hg3'⟩; obtain ⟨va2, vc2, rfl⟩ := ho3.shape; have f3 := hg3'.cell f1 (by simp); have f4 := hg3'.cell f2 (by simp); have hgd3 := grown_trans hgd2 hg3')
                  | (refine step_append_wrS (by rfl) _ _ (by rfl) w.heap.size (.slice oa3 X.length ocap3) X (by rfl) ((HOW.out.grownNone hgd3).alloc _) (.slice ka2 TN.1.length kc2) (.slice va2 PR.1.length vc2) (.slice none 0 0) ⟨TN.1, PR.1, [], false⟩ ((ho2.grownNone hg3').alloc _).part (ho3.alloc _).part (part_nil0 _) w3.heap.size (heap_alloc_new w3 _) (by rfl) (by omega) (by have := hgd3.size; simp; omega) ?_
                     intro v4 w4 ho4 hg4
                     have f5 := hg4.cell ((World.grownBy_alloc _ _ none).cell f3 (by simp)) (fun e => HOW.out.ne HB3.out tenTW e.symm)
                     have f6 := hg4.cell ((World.grownBy_alloc _ _ none).cell f4 (by simp)) (fun e => absurd (HOW.out.lt QB e.symm).2 (by rw [HQB.out]; exact Nat.lt_irrefl _))))
              have hgw : w.grownBy w4 none := grown_ownV (grown_alloc (grown_trans hg3 hgd3) _) ((HOW.out.grownNone hgd3).alloc _) (Nat.le_refl _) hg4
              have HB4 : Hid (w4.heap[TB]? = some (.cells #[.slice na TN.1.length nc, .slice (some ⟨qb, qo, none⟩) TN.2.length pc] 61)) := by
                have b3 := pair_old (grown_alloc hgd3 (.cells #[.slice ka2 TN.1.length kc2, .slice va2 PR.1.length vc2, .bool false, .slice none 0 0] 35)) HB3.out
                show _ = _
                rw [hg4.block TB (Array.getElem?_eq_some_iff.1 b3).1 (fun e => HOW.out.ne HB3.out tenTW e.symm)]
                exact b3
              have HO4 : Hid (OwnV w.heap.size 0 w4 v4 (X ++ [⟨TN.1, PR.1, [], false⟩])) := ho4
              clear e1 e2 f1 f2 f3 f4 f5 f6 ho2 ho3 ho4 hg4 hgd3 hgd2 hgd hg3' hg2' hgW2 hg3 CN CK p0 p1 t0
              go_wp2_with fail
              go_roundw
              case rel =>
                first
                  | exact ⟨k + 1, by go_num, by omega, by rw [HT.out]; exact HO4.out, HB4.out, hgw⟩
                  | ((repeat apply Exists.intro); refine ⟨⟨k + 1, ?_, by omega, by rw [HT.out]; exact HO4.out, HB4.out, hgw⟩, rfl⟩; go_num)
              case measure => simp [intOf]; omega
            · obtain rfl : k = TN.2.length := by omega
              have i3 : ¬ (TN.2.length : Int) < (TN.2.length : Int) := by omega
              have HO4 : Hid (OwnV w.heap.size 0 wr (.slice oa3 (spK g m t TN.2.length).length ocap3) (spT g m (t + 1))) := by show OwnV _ _ _ _ _; rw [← HE2.out]; exact ho3
              clear ho3 hB3
              generalize (spK g m t TN.2.length).length = L3 at *
              go_wp2_with fail
              go_roundw
              case rel =>
                first
                  | exact ⟨t + 1, by go_num, by omega, HO4.out, hg3⟩
                  | ((repeat apply Exists.intro); refine ⟨⟨t + 1, ?_, by omega, HO4.out, hg3⟩, rfl⟩; go_num)
              case measure => simp [intOf]; omega
        · obtain rfl : t = FLn := by omega
          have i2 : ¬ (t : Int) < (t : Int) := by omega
          have HO4 : Hid (OwnV w.heap.size 0 wr (.slice oa2 (spT g m t).length ocap2) (spN g (m + 1))) := by show OwnV _ _ _ _ _; rw [← HE1.out]; exact ho2
          clear ho2
          generalize (spT g m t).length = L2 at *
          go_wp2_with fail
          go_roundw
          case rel =>
            first
              | exact ⟨m + 1, by go_num, by omega, HO4.out, hg2⟩
              | ((repeat apply Exists.intro); refine ⟨⟨m + 1, ?_, by omega, HO4.out, hg2⟩, rfl⟩; go_num)
          case measure => simp [intOf]; omega
    · obtain rfl : m = n := by omega
      have i1 : ¬ (m : Int) < (m : Int) := by omega
      have hlen : (spN g m).length ≤ 1000000 := by have := spN_len g HFo.out m; omega
      obtain ⟨W5, HW5, hg5, B5⟩ := alloc_namedS wr (.cells #[.func (.func 28) #[] #[]] 73)
      have c5 : W5.cell? ⟨wr.heap.size, 0, none⟩ = some (.func (.func 28) #[] #[]) := by simp [World.cell?, B5.out]
      have SO : Hid (Calls Try.prog 31 #[.slice oa (spN g m).length ocap, .func (.func 28) #[] #[]] W5 fun e w' => e = .returned (.tuple #[]) ∧ ∃ l', OwnV w.heap.size 0 w' (.slice oa (spN g m).length ocap) l' ∧ l'.Perm (spN g m) ∧ Sorted l' ∧ W5.grownBy w' (Value.slice oa (spN g m).length ocap).ownBlock) := sort_any w.heap.size W5 _ (spN g m) (ho.grownNone hg5) hlen
      have HO : Hid (OwnV w.heap.size 0 W5 (.slice oa (spN g m).length ocap) (spN g m)) := ho.grownNone hg5
      have hne : (Value.slice oa (spN g m).length ocap).ownBlock ≠ some wr.heap.size := fun e => absurd (ho.lt _ e).2 (Nat.lt_irrefl _)
      obtain ⟨FB, hFB⟩ : ∃ FB, FB = wr.heap.size := ⟨_, rfl⟩
      have HFB : Hid (FB = wr.heap.size) := hFB
      rw [← hFB] at c5 hne
      have HNE : Hid ((Value.slice oa (spN g m).length ocap).ownBlock ≠ some FB) := hne
      have HLN : Hid ((spN g m).length ≤ 1000000) := hlen
      have HLL : Hid ((spN g m).length ≤ 1000000) := hlen
      clear hFB hne ho hlen B5
      obtain ⟨S, hS⟩ : ∃ S, S = spN g m := ⟨_, rfl⟩
      have HS : Hid (S = spN g m) := hS
      rw [← hS] at SO HO HNE HLN ⊢
      obtain ⟨SL, hSL⟩ : ∃ SL, SL = S.length := ⟨_, rfl⟩
      rw [← hSL] at SO HO HNE HLN ⊢
      clear hS hSL
      go_upto_region 16 with fail
      rw [← HW5.out, ← HFB.out]
      go_wp2_with fail
      refine SO.out.mono ?_
      rintro e w6 ⟨rfl, l', ho6, hpm, hso, hg6⟩
      have c6 := hg6.cell c5 (fun e => HNE.out e.symm)
      have CF : Hid (Calls Try.prog 32 #[.slice oa SL ocap, .func (.func 33) #[] #[.pointer (some ⟨FB, 0, none⟩)]] w6 fun e w' => ∃ x, e = .returned x ∧ WritesIs w' x (compactL l') ∧ w6.grownBy w' (Value.slice oa SL ocap).ownBlock) := compact_any w.heap.size w6 _ l' FB ho6 (by rw [hpm.length_eq, HS.out]; exact HLL.out) c6 HNE.out
      have hgw6 : w.grownBy w6 none := grown_ownV (grown_trans hg hg5) HO.out (Nat.le_refl _) hg6
      have HO6 : Hid (OwnV w.heap.size 0 w6 (.slice oa SL ocap) l') := ho6
      have HPM : Hid (l'.Perm S) := hpm
      have HSO : Hid (Sorted l') := hso
      clear ho6 hpm hso SO HO
      go_wp2_with fail
      refine CF.out.mono ?_
      rintro e w7 ⟨y, rfl, hy, hg7⟩
      have hgw7 : w.grownBy w7 none := grown_ownV hgw6 HO6.out (Nat.le_refl _) hg7
      obtain ⟨ya, yc, rfl⟩ := hy.shape
      have HY : Hid (WritesIs w7 (.slice ya (compactL l').length yc) (compactL l')) := hy
      clear hy
      generalize (compactL l').length = yl at *
      go_wp2
      go_ret
      exact ⟨_, rfl, ⟨l', HY.out, HSO.out, by rw [← HS.out]; exact HPM.out⟩, hgw7⟩
end Go.Proofs.Ytljdconhplgipab
