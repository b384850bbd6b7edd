/-
  tree.Put, as it landed, keeps P3.3.
-/
import Derived.Test.YtpmfbfflacbmjacTSearchP
import Derived.Test.YtpmfbfflacbmjacTJoinP
import Derived.Test.YtpmfbfflacbmjacPart3
import Derived.Test.YtpmfbfflacbmjacPairB
namespace Go.Proofs.Ytpmfbfflacbmjac
open Go.RowKit
/-- tree.Put, and that what it hands back is new. -/
def TPutNew : Prop := ∀ (w : World) (v u : Value) (l : PL) (p : Pr), PairsIs w v l → PairIs w u p → Fits l → p.1.length ≤ 140737488355328 → p.2.length ≤ 140737488355328 → Calls Try.prog 77 #[v, u] w fun e w' => ∃ x, e = .returned (.tuple #[x, .int .i64 (putE l p)]) ∧ PairsB 0 w' x (putF l p) ∧ w.grownBy w' none
set_option maxRecDepth 100000 in
set_option maxHeartbeats 1000000 in
theorem tput_new : TPutNew := by
  intro w v u l p hv hu hl hp1 hp2
  obtain ⟨uk, uv, rfl, r1, r2⟩ := hu
  obtain ⟨W0, hW0⟩ : ∃ W0 : World, W0 = w.alloc (.cells #[uk, uv] 80) := ⟨_, rfl⟩
  have hgW : w.grownBy W0 none := by rw [hW0]; exact World.grownBy_alloc _ _ _
  have C0 : Hid (W0.heap[w.heap.size]? = some (.cells #[uk, uv] 80)) := by rw [hW0]; exact heap_alloc_new w _
  have HW0 : Hid (W0 = w.alloc (.cells #[uk, uv] 80)) := hW0
  have CL : Hid (Calls Try.prog 58 #[v] W0 fun e w' => e = .returned (.int .i64 (pairsFaultF l)) ∧ W0.grownBy w' none) := tcheck_ok W0 v l (hv.grown hgW) hl
  have R1 : Hid (SliceIs w uk p.1) := r1
  have R2 : Hid (SliceIs w uv p.2) := r2
  obtain ⟨ka, kc, rfl⟩ := r1.shape
  obtain ⟨va, vc, rfl⟩ := r2.shape
  obtain ⟨a, cap, rfl⟩ := hv.shape
  clear hW0 r1 r2
  by_cases hz : pairsFaultF l = 0
  · by_cases hf : pairFaultF p = 0
    · have hT := (tree_iff l).1 hz
      have hok := (pairFault_iff p).1 hf
      have hE0 : putE0 l p = 0 := by rw [putE0, if_pos hz]; exact hf
      have hE : putE l p = if 60 < (putL l p).length then 11 else 0 := by rw [putE, if_pos hE0]
      have hroom := hT.room
      have hput := put_room l p hroom
      have hnx := next_le l p.1
      have PL1 : Hid (∀ w', W0.grownBy w' none → Calls Try.prog 60 #[.slice a l.length cap, .slice ka p.1.length kc] w' fun e w'' => e = .returned (.tuple #[.int .i64 (posF l p.1 : Int), .int .i64 (nextF l p.1 : Int)]) ∧ w'.grownBy w'' none) := fun w' hg => place_any w' _ _ l p.1 (hv.grown (grown_trans hgW hg)) (R1.out.grown (grown_trans hgW hg)) hT.rises hroom
      have CP : Hid (∀ w', Calls Try.prog 74 #[.agg #[.slice ka p.1.length kc, .slice va p.2.length vc]] w' fun e w'' => e = .returned (.int .i64 0) ∧ w'.grownBy w'' none) := fun w' => by
        have := checkPair_any w' ka va p kc vc
        rw [hf] at this
        exact this
      rw [hz] at CL
      by_cases hfull : 60 < (putL l p).length
      · have hE1 : putE l p = 11 := by rw [hE, if_pos hfull]
        have hF : putF l p = [] := by rw [putF, if_neg (by rw [hE1]; decide)]
        obtain ⟨e1, e2⟩ := hput.1 hfull
        rw [hE1, hF]
        rw [e1] at PL1
        generalize nextF l p.1 = m at *
        have t1 : (l.length : Int) = 60 := by omega
        clear hE hE1 hF hput hfull e1 e2 hz hf hv
        go_enter Try.func77, Try.ntmps77
        go_wp2_with fail
        rw [← HW0.out]
        refine CL.out.mono ?_
        rintro e w1 ⟨rfl, hg1⟩
        obtain ⟨cA, cB, _, _⟩ := pair_room hg1 C0.out
        go_wp2_with fail
        refine (CP.out _).mono ?_
        rintro e w2 ⟨rfl, hg2⟩
        have hg12 := grown_trans hg1 hg2
        obtain ⟨cC, cD, _, _⟩ := pair_room hg12 C0.out
        go_wp2_with fail
        refine (PL1.out _ hg12).mono ?_
        rintro e w3 ⟨rfl, hg3⟩
        go_wp2
        go_ret2
        exact ⟨_, rfl, pairsB_nil _ _, grown_trans hgW (grown_trans hg12 hg3)⟩
      · have hE1 : putE l p = 0 := by rw [hE, if_neg hfull]
        have hF : putF l p = l.take (posF l p.1) ++ ([p] ++ l.drop (nextF l p.1)) := by rw [putF, if_pos hE1, put_next]
        have hnf : posF l p.1 = nextF l p.1 → l.length ≠ 60 := fun e1 e2 => hfull (hput.2 ⟨e1, e2⟩)
        rw [hE1, hF]
        generalize posF l p.1 = n at *
        generalize nextF l p.1 = m at *
        obtain ⟨n1, n2, n3⟩ := hnx
        obtain ⟨R, hR⟩ : ∃ R, R = l.take n ++ ([p] ++ l.drop m) := ⟨_, rfl⟩
        rw [← hR]
        have HR : Hid (R = l.take n ++ ([p] ++ l.drop m)) := hR
        have HNF : Hid (n = m → l.length ≠ 60) := hnf
        have HT : Hid (Tree l) := hT
        clear hE hE1 hF hput hfull hR hnf hT
        go_enter Try.func77, Try.ntmps77
        go_wp2_with fail
        rw [← HW0.out]
        refine CL.out.mono ?_
        rintro e w1 ⟨rfl, hg1⟩
        obtain ⟨cA, cB, _, _⟩ := pair_room hg1 C0.out
        go_wp2_with fail
        refine (CP.out _).mono ?_
        rintro e w2 ⟨rfl, hg2⟩
        have hg12 := grown_trans hg1 hg2
        obtain ⟨cC, cD, _, _⟩ := pair_room hg12 C0.out
        go_wp2_with fail
        refine (PL1.out _ hg12).mono ?_
        rintro e w3 ⟨rfl, hg3⟩
        have hg13 := grown_trans hg12 hg3
        obtain ⟨cE, cF, _, _⟩ := pair_room hg13 C0.out
        obtain ⟨a1, c1, q1, g1⟩ := pslice_h a cap l n (by omega) hv.cap
        obtain ⟨a2, c2, q2, g2⟩ := pslice_l a cap l m (by omega)
        have hgw := grown_trans hgW hg13
        have JO : Hid (Calls Try.prog 61 #[.slice (some ⟨w3.heap.size + 1, 0, none⟩) 3 3] ((w3.alloc (.cells #[.slice ka p.1.length kc, .slice va p.2.length vc] 80)).alloc (.cells #[.slice a1 n c1, .slice (some ⟨w3.heap.size, 0, none⟩) 1 1, .slice a2 (l.length - m) c2] 41)).drew fun e w'' => ∃ v', e = .returned v' ∧ PairsB 0 w'' v' R ∧ w3.grownBy w'' none) := by
          rw [HR.out]
          have hg : w3.grownBy ((w3.alloc (.cells #[.slice ka p.1.length kc, .slice va p.2.length vc] 80)).alloc (.cells #[.slice a1 n c1, .slice (some ⟨w3.heap.size, 0, none⟩) 1 1, .slice a2 (l.length - m) c2] 41)).drew none := grown_drew (grown_alloc (World.grownBy_alloc _ _ _) _)
          have hb : ((w3.alloc (.cells #[.slice ka p.1.length kc, .slice va p.2.length vc] 80)).alloc (.cells #[.slice a1 n c1, .slice (some ⟨w3.heap.size, 0, none⟩) 1 1, .slice a2 (l.length - m) c2] 41)).drew.heap[w3.heap.size + 1]? = some (.cells #[.slice a1 n c1, .slice (some ⟨w3.heap.size, 0, none⟩) 1 1, .slice a2 (l.length - m) c2] 41) := by
            have := heap_alloc_new (w3.alloc (.cells #[.slice ka p.1.length kc, .slice va p.2.length vc] 80)) (.cells #[.slice a1 n c1, .slice (some ⟨w3.heap.size, 0, none⟩) 1 1, .slice a2 (l.length - m) c2] 41)
            rw [World.size_alloc] at this
            exact this
          have hbp : ((w3.alloc (.cells #[.slice ka p.1.length kc, .slice va p.2.length vc] 80)).alloc (.cells #[.slice a1 n c1, .slice (some ⟨w3.heap.size, 0, none⟩) 1 1, .slice a2 (l.length - m) c2] 41)).drew.heap[w3.heap.size]? = some (.cells #[.slice ka p.1.length kc, .slice va p.2.length vc] 80) := by
            have := (World.grownBy_alloc (w3.alloc (.cells #[.slice ka p.1.length kc, .slice va p.2.length vc] 80)) (.cells #[.slice a1 n c1, .slice (some ⟨w3.heap.size, 0, none⟩) 1 1, .slice a2 (l.length - m) c2] 41) none).block w3.heap.size (by simp) (by simp)
            rw [heap_alloc_new] at this
            exact this
          generalize ((w3.alloc (.cells #[.slice ka p.1.length kc, .slice va p.2.length vc] 80)).alloc (.cells #[.slice a1 n c1, .slice (some ⟨w3.heap.size, 0, none⟩) 1 1, .slice a2 (l.length - m) c2] 41)).drew = w' at *
          have h1 := g1 w' (hv.grown (grown_trans hgw hg))
          have h2 := g2 w' (hv.grown (grown_trans hgw hg))
          have h3 : PairsIs w' (.slice (some ⟨w3.heap.size, 0, none⟩) 1 1) [p] := by
            refine ⟨_, 1, rfl, by simp, .inr ⟨_, 0, rfl, fun i hi => ?_⟩⟩
            obtain rfl : i = 0 := by simpa using hi
            exact ⟨_, _, by simp [World.cell?, hbp], by simp [World.cell?, hbp], R1.out.grown (grown_trans hgw hg), R2.out.grown (grown_trans hgw hg)⟩
          have := joined_any w' (.slice (some ⟨w3.heap.size + 1, 0, none⟩) 3 3) [l.take n, [p], l.drop m] ⟨_, _, rfl, fun i hi => ?_⟩ (by simp; omega) (by simp) (fun q hq => ?_)
          · refine this.mono ?_
            rintro e w4 ⟨v4, rfl, h4, hg4⟩
            exact ⟨v4, rfl, by simpa using h4.pairsB, grown_trans hg hg4⟩
          · match i, hi with
            | 0, _ => exact ⟨_, by simp [World.cell?, hb], h1⟩
            | 1, _ => exact ⟨_, by simp [World.cell?, hb], h3⟩
            | 2, _ => exact ⟨_, by simp [World.cell?, hb], h2⟩
          · simp only [List.flatten_cons, List.flatten_nil, List.append_nil, List.mem_append, List.mem_cons, List.not_mem_nil, or_false] at hq
            rcases hq with hq | rfl | hq
            · have := HT.out.pairs q (List.mem_of_mem_take hq); omega
            · omega
            · have := HT.out.pairs q (List.mem_of_mem_drop hq); omega
        have TT : (((n : Int) == (m : Int)) = true ∧ ((l.length : Int) == 60) = false) ∨ ((n : Int) == (m : Int)) = false := by
          by_cases hnm : n = m
          · exact .inl ⟨by simp [hnm], by have := HNF.out hnm; simp; omega⟩
          · exact .inr (by simp; omega)
        clear cA cB cC cD g1 g2 hv
        rcases TT with ⟨t2, t3⟩ | t3
        all_goals
          go_wp2_with fail
          go_region_with (go_at_call 61; refine JO.out.mono ?_; rintro e w5 ⟨v5, rfl, ho5, hg5⟩; obtain ⟨a5, c5, rfl⟩ := ho5.shape)
          go_wp2
          go_ret2
          exact ⟨_, rfl, ho5, grown_trans hgw hg5⟩
    · have hE0 : putE0 l p = pairFaultF p := by rw [putE0, if_pos hz]
      have hE : putE l p = pairFaultF p := by rw [putE, if_neg (by rw [hE0]; exact hf), hE0]
      have hF : putF l p = [] := by rw [putF, if_neg (by rw [hE]; exact hf)]
      have CP : Hid (∀ w', Calls Try.prog 74 #[.agg #[.slice ka p.1.length kc, .slice va p.2.length vc]] w' fun e w'' => e = .returned (.int .i64 (pairFaultF p)) ∧ w'.grownBy w'' none) := fun w' => checkPair_any w' ka va p kc vc
      rw [hE, hF]
      rw [hz] at CL
      generalize pairFaultF p = z at *
      have hz' : (z != 0) = true := by simpa using hf
      clear hE hE0 hF hz hv
      go_enter Try.func77, Try.ntmps77
      go_wp2_with fail
      rw [← HW0.out]
      refine CL.out.mono ?_
      rintro e w1 ⟨rfl, hg1⟩
      obtain ⟨cA, cB, _, _⟩ := pair_room hg1 C0.out
      go_wp2_with fail
      refine (CP.out _).mono ?_
      rintro e w2 ⟨rfl, hg2⟩
      go_wp2
      go_ret2
      exact ⟨_, rfl, pairsB_nil _ _, grown_trans hgW (grown_trans hg1 hg2)⟩
  · have hE0 : putE0 l p = pairsFaultF l := by rw [putE0, if_neg hz]
    have hE : putE l p = pairsFaultF l := by rw [putE, if_neg (by rw [hE0]; exact hz), hE0]
    have hF : putF l p = [] := by rw [putF, if_neg (by rw [hE]; exact hz)]
    rw [hE, hF]
    generalize pairsFaultF l = z at *
    have hz' : (z != 0) = true := by simpa using hz
    clear hE hE0 hF hv
    go_enter Try.func77, Try.ntmps77
    go_wp2_with fail
    rw [← HW0.out]
    refine CL.out.mono ?_
    rintro e w1 ⟨rfl, hg1⟩
    go_wp2
    go_ret2
    exact ⟨_, rfl, pairsB_nil _ _, grown_trans hgW hg1⟩
theorem tput_ok : TPutOK := fun w v u l p h1 h2 h3 h4 h5 => (tput_new w v u l p h1 h2 h3 h4 h5).mono fun e w' h => by
  obtain ⟨x, h1, h2, h3⟩ := h
  exact ⟨x, h1, h2.list, h3⟩
end Go.Proofs.Ytpmfbfflacbmjac
