/-
  Texts of this proof, joined: TJoinP, TPutP, TDelP.
-/
import Derived.Test.YtpmfbfflacbmjacCloneP
import Derived.Test.YtpmfbfflacbmjacPart3
import Derived.Test.YtpmfbfflacbmjacPart7
import Derived.Deep.RegionWith
import Derived.Handy
import Derived.Test.YtpmfbfflacbmjacTSearchP
import Derived.Test.YtpmfbfflacbmjacPart4
/-
  The walk of tree.joined: pieces of pairs, put together in new memory.
-/
namespace Go.Proofs.Ytpmfbfflacbmjac
open Go.RowKit
/-- Pieces of pairs, as they are handed over. -/
def PiecesIs (w : World) (v : Value) (ls : List PL) : Prop :=
  ∃ b cap, v = .slice (some ⟨b, 0, none⟩) ls.length cap ∧ ∀ i, i < ls.length → ∃ vi, w.cell? ⟨b, i, none⟩ = some vi ∧ PairsIs w vi (ls.getD i [])
theorem flatten_take (ls : List PL) (i : Nat) (h : i < ls.length) : (ls.take (i + 1)).flatten = (ls.take i).flatten ++ ls.getD i [] := by
  rw [List.take_succ_eq_append_getElem h, List.flatten_append]
  simp [h]
theorem flatten_le (ls : List PL) (i : Nat) (h : i < ls.length) : (ls.take i).flatten.length + (ls.getD i []).length ≤ ls.flatten.length := by
  have e : ls.flatten = (ls.take (i + 1)).flatten ++ (ls.drop (i + 1)).flatten := by rw [← List.flatten_append, List.take_append_drop]
  rw [e, flatten_take ls i h]
  simp
theorem flatten_mem (ls : List PL) (i j : Nat) (h : i < ls.length) (hj : j < (ls.getD i []).length) : (ls.getD i []).getD j ([], []) ∈ ls.flatten := by
  rw [List.mem_flatten]
  refine ⟨ls.getD i [], ?_, ?_⟩
  · rw [show ls.getD i [] = ls[i] by simp [h]]; exact List.getElem_mem h
  · generalize ls.getD i [] = m at *
    rw [show m.getD j ([], []) = m[j] by simp [hj]]; exact List.getElem_mem hj
set_option maxRecDepth 100000 in
set_option maxHeartbeats 2000000 in
theorem joined_any (w : World) (v : Value) (ls : List PL) (hv : PiecesIs w v ls) (hn : ls.flatten.length ≤ 1000) (hl : ls.length ≤ 1000) (hls : ∀ q ∈ ls.flatten, q.1.length ≤ 1000000 ∧ q.2.length ≤ 1000000) :
    Calls Try.prog 61 #[v] w fun e w' => ∃ v', e = .returned v' ∧ OwnQ w.heap.size 0 w' v' ls.flatten ∧ w.grownBy w' none := by
  obtain ⟨b, cap, rfl, hcells⟩ := hv
  go_enter Try.func61, Try.ntmps61
  go_wp2_with fail
  go_loopw [3, 10] (fun cv i wr => ∃ m : Nat, m ≤ ls.length ∧ i = .int .i64 (m : Int) ∧ OwnQ w.heap.size 0 wr cv (ls.take m).flatten ∧ w.grownBy wr none) (fun _ i _ => ls.length - (intOf i).toNat)
  case atStart => exact ⟨0, by omega, rfl, ownQ_nil _ _ _, grown_refl _ _⟩
  case round =>
    obtain ⟨m, hm, rfl, hown, hg⟩ := hrel
    obtain ⟨ca, ccap, rfl⟩ := hown.shape
    by_cases hlt : m < ls.length
    · have t1 : (m : Int) < (ls.length : Int) := by omega
      obtain ⟨vi, ci, hpi⟩ := hcells m hlt
      have HF : Hid ((ls.take (m + 1)).flatten = (ls.take m).flatten ++ ls.getD m []) := flatten_take ls m hlt
      have hle := flatten_le ls m hlt
      have HM : Hid (∀ j, j < (ls.getD m []).length → ((ls.getD m []).getD j ([], [])).1.length ≤ 1000000 ∧ ((ls.getD m []).getD j ([], [])).2.length ≤ 1000000) := fun j hj => hls _ (flatten_mem ls m j hlt hj)
      have ci2 := hg.cell ci (by simp)
      generalize ls.getD m [] = L at *
      obtain ⟨pa, pcap, rfl⟩ := hpi.shape
      have HPI : Hid (PairsIs w (.slice pa L.length pcap) L) := hpi
      have HOWN : Hid (OwnQ w.heap.size 0 wr (.slice ca (ls.take m).flatten.length ccap) (ls.take m).flatten) := hown
      generalize (ls.take m).flatten = D at *
      clear ci hpi hcells hls hown
      go_wp2_with fail
      go_loopw [3, 16] (fun cv i wr => ∃ k : Nat, k ≤ L.length ∧ i = .int .i64 (k : Int) ∧ OwnQ w.heap.size 0 wr cv (D ++ L.take k) ∧ w.grownBy wr none) (fun _ i _ => L.length - (intOf i).toNat)
      case atStart => exact ⟨0, by omega, rfl, by rw [List.take_zero, List.append_nil]; exact HOWN.out, hg⟩
      case round =>
        clear hg HOWN ci2
        obtain ⟨k, hk, rfl, hown, hg⟩ := hrel
        obtain ⟨oa, ocap, rfl⟩ := hown.shape
        by_cases hkl : k < L.length
        · have t2 : (k : Int) < (L.length : Int) := by omega
          obtain ⟨pb, po, rfl, hat⟩ := HPI.out.at k hkl
          obtain ⟨vk, vv, c1, c2, s1, s2⟩ := hat.grown hg
          obtain ⟨b1, b2⟩ := HM.out k hkl
          have HT : Hid (D ++ L.take (k + 1) = (D ++ L.take k) ++ [L.getD k ([], [])]) := by
            show _ = _
            rw [List.take_succ_eq_append_getElem hkl, List.append_assoc]; simp [hkl]
          have hdl : (D ++ L.take k).length ≤ 1000 := by simp; omega
          generalize L.getD k ([], []) = P at *
          generalize D ++ L.take k = X at *
          have CK : Hid (∀ w', wr.grownBy w' none → Calls Try.prog 44 #[vk] w' fun e w'' => ∃ v', e = .returned v' ∧ Own w'.heap.size w'' v' P.1 ∧ w'.grownBy w'' none) := fun w' hg' => clone_any w' vk P.1 (s1.grown hg') (by omega)
          have CV : Hid (∀ w', wr.grownBy w' none → Calls Try.prog 44 #[vv] w' fun e w'' => ∃ v', e = .returned v' ∧ Own w'.heap.size w'' v' P.2 ∧ w'.grownBy w'' none) := fun w' hg' => clone_any w' vv P.2 (s2.grown hg') (by omega)
          obtain ⟨ka, kc, rfl⟩ := s1.shape
          obtain ⟨va, vc, rfl⟩ := s2.shape
          obtain ⟨W1, hW1⟩ : ∃ W1 : World, W1 = wr.alloc (.cells #[.slice ka P.1.length kc, .slice va P.2.length vc] 80) := ⟨_, rfl⟩
          have hgW : wr.grownBy W1 none := by rw [hW1]; exact World.grownBy_alloc _ _ _
          have HW1 : Hid (W1 = wr.alloc (.cells #[.slice ka P.1.length kc, .slice va P.2.length vc] 80)) := hW1
          obtain ⟨d1, d2, _, _⟩ := pair_room (grown_refl W1 none) (by rw [hW1]; exact heap_alloc_new wr _ : W1.heap[wr.heap.size]? = some (.cells #[.slice ka P.1.length kc, .slice va P.2.length vc] 80))
          have hsz0 := hg.size
          have HOW : Hid (OwnQ w.heap.size 0 wr (.slice oa X.length ocap) X) := hown
          clear hat s1 s2 hW1 hown
          go_wp2_with fail
          rw [← HW1.out]
          have e1 : W1.drew.cell? ⟨wr.heap.size, 0, none⟩ = some (.slice ka P.1.length kc) := d1
          have e2 : W1.drew.cell? ⟨wr.heap.size, 1, none⟩ = some (.slice va P.2.length vc) := d2
          have hgd := grown_drew hgW
          go_region_held3 (fun w' => w'.cell? ⟨wr.heap.size, 0, none⟩ = some (.slice ka P.1.length kc) ∧ w'.cell? ⟨wr.heap.size, 1, none⟩ = some (.slice va P.2.length vc))
            (first | exact ⟨e1, e2⟩ | exact ⟨f1, f2⟩ | exact ⟨f3, f4⟩ | exact ⟨(World.grownBy_alloc _ _ none).cell f3 (by simp), (World.grownBy_alloc _ _ none).cell f4 (by simp)⟩ | exact ⟨f5, f6⟩)
            (first
              | (go_at_call_of 44 (Value.slice ka P.1.length kc); refine (CK.out _ hgd).mono ?_; rintro e w2 ⟨v2, rfl, ho2, hg2⟩; obtain ⟨ka2, kc2, rfl⟩ := ho2.shape; have f1 := hg2.cell e1 (by simp); have f2 := hg2.cell e2 (by simp); have hgd2 := grown_trans hgd hg2)
              | (go_at_call_of 44 (Value.slice va P.2.length vc); refine (CV.out _ hgd2).mono ?_; rintro e w3 ⟨v3, rfl, ho3, hg3⟩; obtain ⟨va2, vc2, rfl⟩ := ho3.shape; have f3 := hg3.cell f1 (by simp); have f4 := hg3.cell f2 (by simp); have hgd3 := grown_trans hgd2 hg3)
              | (refine step_append_pairQ (by rfl) _ _ (by rfl) w.heap.size 0 (Nat.zero_le _) (.slice oa X.length ocap) X (by rfl) ((HOW.out.grownNone hgd3).alloc _) (.slice ka2 P.1.length kc2) (.slice va2 P.2.length vc2) P ((ho2.grownNone hg3).alloc _).part (ho3.alloc _).part w3.heap.size (heap_alloc_new w3 _) (by rfl) (by omega) (by have := hgd3.size; simp; omega) ?_
                 intro v4 w4 ho4 hg4
                 have f5 := hg4.cell ((World.grownBy_alloc _ _ none).cell f3 (by simp)) (fun e => absurd (HOW.out.lt _ e.symm).2 (Nat.lt_irrefl _))
                 have f6 := hg4.cell ((World.grownBy_alloc _ _ none).cell f4 (by simp)) (fun e => absurd (HOW.out.lt _ e.symm).2 (Nat.lt_irrefl _))))
          have hgw : w.grownBy w4 none := grown_ownQ (grown_alloc (grown_trans hg hgd3) _) ((HOW.out.grownNone hgd3).alloc _) (Nat.le_refl _) hg4
          have HO4 : Hid (OwnQ w.heap.size 0 w4 v4 (X ++ [P])) := ho4
          clear e1 e2 f1 f2 f3 f4 f5 f6 ho2 ho3 ho4 hg4 hgd3 hgd2 hgd hg3 hg2 hgW hg CK CV d1 d2 c1 c2
          go_wp2_with fail
          go_roundw
          case rel =>
            first
              | exact ⟨k + 1, by omega, by go_num, by rw [HT.out]; exact HO4.out, hgw⟩
              | ((repeat apply Exists.intro); refine ⟨⟨k + 1, by omega, ?_, by rw [HT.out]; exact HO4.out, hgw⟩, rfl⟩; go_num)
          case measure => simp [intOf]; omega
        · obtain rfl : k = L.length := by omega
          rw [List.take_length] at hown
          rw [List.take_length]
          go_wp2_with fail
          go_roundw
          case rel => exact ⟨m + 1, by omega, by go_num, by rw [HF.out]; exact hown, hg⟩
          case measure => simp [intOf]; omega
    · obtain rfl : m = ls.length := by omega
      rw [List.take_length] at hown
      rw [List.take_length]
      go_wp2
      go_ret
      exact ⟨_, rfl, hown, hg⟩
end Go.Proofs.Ytpmfbfflacbmjac

/-
  tree.Put, as it landed, keeps P3.3.
-/
namespace Go.Proofs.Ytpmfbfflacbmjac
open Go.RowKit
/-- tree.Put, and that what it hands back is new. -/
def TPutNew : Prop := ∀ (w : World) (v u : Value) (l : PL) (p : Pr), PairsIs w v l → PairIs w u p → Fits l → p.1.length ≤ 140737488355328 → p.2.length ≤ 140737488355328 → Calls Try.prog 77 #[v, u] w fun e w' => ∃ x, e = .returned (.tuple #[x, .int .i64 (putE l p)]) ∧ PairsB 0 w' x (putF l p) ∧ w.grownBy w' none
set_option maxRecDepth 100000 in
set_option maxHeartbeats 1000000 in
theorem tput_new : TPutNew := by
  intro w v u l p hv hu hl hp1 hp2
  obtain ⟨uk, uv, rfl, r1, r2⟩ := hu
  obtain ⟨W0, hW0⟩ : ∃ W0 : World, W0 = w.alloc (.cells #[uk, uv] 80) := ⟨_, rfl⟩
  have hgW : w.grownBy W0 none := by rw [hW0]; exact World.grownBy_alloc _ _ _
  have C0 : Hid (W0.heap[w.heap.size]? = some (.cells #[uk, uv] 80)) := by rw [hW0]; exact heap_alloc_new w _
  have HW0 : Hid (W0 = w.alloc (.cells #[uk, uv] 80)) := hW0
  have CL : Hid (Calls Try.prog 58 #[v] W0 fun e w' => e = .returned (.int .i64 (pairsFaultF l)) ∧ W0.grownBy w' none) := tcheck_ok W0 v l (hv.grown hgW) hl
  have R1 : Hid (SliceIs w uk p.1) := r1
  have R2 : Hid (SliceIs w uv p.2) := r2
  obtain ⟨ka, kc, rfl⟩ := r1.shape
  obtain ⟨va, vc, rfl⟩ := r2.shape
  obtain ⟨a, cap, rfl⟩ := hv.shape
  clear hW0 r1 r2
  by_cases hz : pairsFaultF l = 0
  · by_cases hf : pairFaultF p = 0
    · have hT := (tree_iff l).1 hz
      have hok := (pairFault_iff p).1 hf
      have hE0 : putE0 l p = 0 := by rw [putE0, if_pos hz]; exact hf
      have hE : putE l p = if 60 < (putL l p).length then 11 else 0 := by rw [putE, if_pos hE0]
      have hroom := hT.room
      have hput := put_room l p hroom
      have hnx := next_le l p.1
      have PL1 : Hid (∀ w', W0.grownBy w' none → Calls Try.prog 60 #[.slice a l.length cap, .slice ka p.1.length kc] w' fun e w'' => e = .returned (.tuple #[.int .i64 (posF l p.1 : Int), .int .i64 (nextF l p.1 : Int)]) ∧ w'.grownBy w'' none) := fun w' hg => place_any w' _ _ l p.1 (hv.grown (grown_trans hgW hg)) (R1.out.grown (grown_trans hgW hg)) hT.rises hroom
      have CP : Hid (∀ w', Calls Try.prog 74 #[.agg #[.slice ka p.1.length kc, .slice va p.2.length vc]] w' fun e w'' => e = .returned (.int .i64 0) ∧ w'.grownBy w'' none) := fun w' => by
        have := checkPair_any w' ka va p kc vc
        rw [hf] at this
        exact this
      rw [hz] at CL
      by_cases hfull : 60 < (putL l p).length
      · have hE1 : putE l p = 11 := by rw [hE, if_pos hfull]
        have hF : putF l p = [] := by rw [putF, if_neg (by rw [hE1]; decide)]
        obtain ⟨e1, e2⟩ := hput.1 hfull
        rw [hE1, hF]
        rw [e1] at PL1
        generalize nextF l p.1 = m at *
        have t1 : (l.length : Int) = 60 := by omega
        clear hE hE1 hF hput hfull e1 e2 hz hf hv
        go_enter Try.func77, Try.ntmps77
        go_wp2_with fail
        rw [← HW0.out]
        refine CL.out.mono ?_
        rintro e w1 ⟨rfl, hg1⟩
        obtain ⟨cA, cB, _, _⟩ := pair_room hg1 C0.out
        go_wp2_with fail
        refine (CP.out _).mono ?_
        rintro e w2 ⟨rfl, hg2⟩
        have hg12 := grown_trans hg1 hg2
        obtain ⟨cC, cD, _, _⟩ := pair_room hg12 C0.out
        go_wp2_with fail
        refine (PL1.out _ hg12).mono ?_
        rintro e w3 ⟨rfl, hg3⟩
        go_wp2
        go_ret2
        exact ⟨_, rfl, pairsB_nil _ _, grown_trans hgW (grown_trans hg12 hg3)⟩
      · have hE1 : putE l p = 0 := by rw [hE, if_neg hfull]
        have hF : putF l p = l.take (posF l p.1) ++ ([p] ++ l.drop (nextF l p.1)) := by rw [putF, if_pos hE1, put_next]
        have hnf : posF l p.1 = nextF l p.1 → l.length ≠ 60 := fun e1 e2 => hfull (hput.2 ⟨e1, e2⟩)
        rw [hE1, hF]
        generalize posF l p.1 = n at *
        generalize nextF l p.1 = m at *
        obtain ⟨n1, n2, n3⟩ := hnx
        obtain ⟨R, hR⟩ : ∃ R, R = l.take n ++ ([p] ++ l.drop m) := ⟨_, rfl⟩
        rw [← hR]
        have HR : Hid (R = l.take n ++ ([p] ++ l.drop m)) := hR
        have HNF : Hid (n = m → l.length ≠ 60) := hnf
        have HT : Hid (Tree l) := hT
        clear hE hE1 hF hput hfull hR hnf hT
        go_enter Try.func77, Try.ntmps77
        go_wp2_with fail
        rw [← HW0.out]
        refine CL.out.mono ?_
        rintro e w1 ⟨rfl, hg1⟩
        obtain ⟨cA, cB, _, _⟩ := pair_room hg1 C0.out
        go_wp2_with fail
        refine (CP.out _).mono ?_
        rintro e w2 ⟨rfl, hg2⟩
        have hg12 := grown_trans hg1 hg2
        obtain ⟨cC, cD, _, _⟩ := pair_room hg12 C0.out
        go_wp2_with fail
        refine (PL1.out _ hg12).mono ?_
        rintro e w3 ⟨rfl, hg3⟩
        have hg13 := grown_trans hg12 hg3
        obtain ⟨cE, cF, _, _⟩ := pair_room hg13 C0.out
        obtain ⟨a1, c1, q1, g1⟩ := pslice_h a cap l n (by omega) hv.cap
        obtain ⟨a2, c2, q2, g2⟩ := pslice_l a cap l m (by omega)
        have hgw := grown_trans hgW hg13
        have JO : Hid (Calls Try.prog 61 #[.slice (some ⟨w3.heap.size + 1, 0, none⟩) 3 3] ((w3.alloc (.cells #[.slice ka p.1.length kc, .slice va p.2.length vc] 80)).alloc (.cells #[.slice a1 n c1, .slice (some ⟨w3.heap.size, 0, none⟩) 1 1, .slice a2 (l.length - m) c2] 41)).drew fun e w'' => ∃ v', e = .returned v' ∧ PairsB 0 w'' v' R ∧ w3.grownBy w'' none) := by
          rw [HR.out]
          have hg : w3.grownBy ((w3.alloc (.cells #[.slice ka p.1.length kc, .slice va p.2.length vc] 80)).alloc (.cells #[.slice a1 n c1, .slice (some ⟨w3.heap.size, 0, none⟩) 1 1, .slice a2 (l.length - m) c2] 41)).drew none := grown_drew (grown_alloc (World.grownBy_alloc _ _ _) _)
          have hb : ((w3.alloc (.cells #[.slice ka p.1.length kc, .slice va p.2.length vc] 80)).alloc (.cells #[.slice a1 n c1, .slice (some ⟨w3.heap.size, 0, none⟩) 1 1, .slice a2 (l.length - m) c2] 41)).drew.heap[w3.heap.size + 1]? = some (.cells #[.slice a1 n c1, .slice (some ⟨w3.heap.size, 0, none⟩) 1 1, .slice a2 (l.length - m) c2] 41) := by
            have := heap_alloc_new (w3.alloc (.cells #[.slice ka p.1.length kc, .slice va p.2.length vc] 80)) (.cells #[.slice a1 n c1, .slice (some ⟨w3.heap.size, 0, none⟩) 1 1, .slice a2 (l.length - m) c2] 41)
            rw [World.size_alloc] at this
            exact this
          have hbp : ((w3.alloc (.cells #[.slice ka p.1.length kc, .slice va p.2.length vc] 80)).alloc (.cells #[.slice a1 n c1, .slice (some ⟨w3.heap.size, 0, none⟩) 1 1, .slice a2 (l.length - m) c2] 41)).drew.heap[w3.heap.size]? = some (.cells #[.slice ka p.1.length kc, .slice va p.2.length vc] 80) := by
            have := (World.grownBy_alloc (w3.alloc (.cells #[.slice ka p.1.length kc, .slice va p.2.length vc] 80)) (.cells #[.slice a1 n c1, .slice (some ⟨w3.heap.size, 0, none⟩) 1 1, .slice a2 (l.length - m) c2] 41) none).block w3.heap.size (by simp) (by simp)
            rw [heap_alloc_new] at this
            exact this
          generalize ((w3.alloc (.cells #[.slice ka p.1.length kc, .slice va p.2.length vc] 80)).alloc (.cells #[.slice a1 n c1, .slice (some ⟨w3.heap.size, 0, none⟩) 1 1, .slice a2 (l.length - m) c2] 41)).drew = w' at *
          have h1 := g1 w' (hv.grown (grown_trans hgw hg))
          have h2 := g2 w' (hv.grown (grown_trans hgw hg))
          have h3 : PairsIs w' (.slice (some ⟨w3.heap.size, 0, none⟩) 1 1) [p] := by
            refine ⟨_, 1, rfl, by simp, .inr ⟨_, 0, rfl, fun i hi => ?_⟩⟩
            obtain rfl : i = 0 := by simpa using hi
            exact ⟨_, _, by simp [World.cell?, hbp], by simp [World.cell?, hbp], R1.out.grown (grown_trans hgw hg), R2.out.grown (grown_trans hgw hg)⟩
          have := joined_any w' (.slice (some ⟨w3.heap.size + 1, 0, none⟩) 3 3) [l.take n, [p], l.drop m] ⟨_, _, rfl, fun i hi => ?_⟩ (by simp; omega) (by simp) (fun q hq => ?_)
          · refine this.mono ?_
            rintro e w4 ⟨v4, rfl, h4, hg4⟩
            exact ⟨v4, rfl, by simpa using h4.pairsB, grown_trans hg hg4⟩
          · match i, hi with
            | 0, _ => exact ⟨_, by simp [World.cell?, hb], h1⟩
            | 1, _ => exact ⟨_, by simp [World.cell?, hb], h3⟩
            | 2, _ => exact ⟨_, by simp [World.cell?, hb], h2⟩
          · simp only [List.flatten_cons, List.flatten_nil, List.append_nil, List.mem_append, List.mem_cons, List.not_mem_nil, or_false] at hq
            rcases hq with hq | rfl | hq
            · have := HT.out.pairs q (List.mem_of_mem_take hq); omega
            · omega
            · have := HT.out.pairs q (List.mem_of_mem_drop hq); omega
        have TT : (((n : Int) == (m : Int)) = true ∧ ((l.length : Int) == 60) = false) ∨ ((n : Int) == (m : Int)) = false := by
          by_cases hnm : n = m
          · exact .inl ⟨by simp [hnm], by have := HNF.out hnm; simp; omega⟩
          · exact .inr (by simp; omega)
        clear cA cB cC cD g1 g2 hv
        rcases TT with ⟨t2, t3⟩ | t3
        all_goals
          go_wp2_with fail
          go_region_with (go_at_call 61; refine JO.out.mono ?_; rintro e w5 ⟨v5, rfl, ho5, hg5⟩; obtain ⟨a5, c5, rfl⟩ := ho5.shape)
          go_wp2
          go_ret2
          exact ⟨_, rfl, ho5, grown_trans hgw hg5⟩
    · have hE0 : putE0 l p = pairFaultF p := by rw [putE0, if_pos hz]
      have hE : putE l p = pairFaultF p := by rw [putE, if_neg (by rw [hE0]; exact hf), hE0]
      have hF : putF l p = [] := by rw [putF, if_neg (by rw [hE]; exact hf)]
      have CP : Hid (∀ w', Calls Try.prog 74 #[.agg #[.slice ka p.1.length kc, .slice va p.2.length vc]] w' fun e w'' => e = .returned (.int .i64 (pairFaultF p)) ∧ w'.grownBy w'' none) := fun w' => checkPair_any w' ka va p kc vc
      rw [hE, hF]
      rw [hz] at CL
      generalize pairFaultF p = z at *
      have hz' : (z != 0) = true := by simpa using hf
      clear hE hE0 hF hz hv
      go_enter Try.func77, Try.ntmps77
      go_wp2_with fail
      rw [← HW0.out]
      refine CL.out.mono ?_
      rintro e w1 ⟨rfl, hg1⟩
      obtain ⟨cA, cB, _, _⟩ := pair_room hg1 C0.out
      go_wp2_with fail
      refine (CP.out _).mono ?_
      rintro e w2 ⟨rfl, hg2⟩
      go_wp2
      go_ret2
      exact ⟨_, rfl, pairsB_nil _ _, grown_trans hgW (grown_trans hg1 hg2)⟩
  · have hE0 : putE0 l p = pairsFaultF l := by rw [putE0, if_neg hz]
    have hE : putE l p = pairsFaultF l := by rw [putE, if_neg (by rw [hE0]; exact hz), hE0]
    have hF : putF l p = [] := by rw [putF, if_neg (by rw [hE]; exact hz)]
    rw [hE, hF]
    generalize pairsFaultF l = z at *
    have hz' : (z != 0) = true := by simpa using hz
    clear hE hE0 hF hv
    go_enter Try.func77, Try.ntmps77
    go_wp2_with fail
    rw [← HW0.out]
    refine CL.out.mono ?_
    rintro e w1 ⟨rfl, hg1⟩
    go_wp2
    go_ret2
    exact ⟨_, rfl, pairsB_nil _ _, grown_trans hgW hg1⟩
theorem tput_ok : TPutOK := fun w v u l p h1 h2 h3 h4 h5 => (tput_new w v u l p h1 h2 h3 h4 h5).mono fun e w' h => by
  obtain ⟨x, h1, h2, h3⟩ := h
  exact ⟨x, h1, h2.list, h3⟩
end Go.Proofs.Ytpmfbfflacbmjac

/-
  tree.Delete, as it landed, keeps P3.4.
-/
namespace Go.Proofs.Ytpmfbfflacbmjac
open Go.RowKit
/-- tree.Delete, and that what it hands back is new. -/
def TDelNew : Prop := ∀ (w : World) (v u : Value) (l : PL) (k : List UInt8), PairsIs w v l → SliceIs w u k → Fits l → k.length ≤ 140737488355328 → Calls Try.prog 78 #[v, u] w fun e w' => ∃ x, e = .returned (.tuple #[x, .int .i64 (getE l k)]) ∧ PairsB 0 w' x (delF l k) ∧ w.grownBy w' none
set_option maxRecDepth 100000 in
set_option maxHeartbeats 1000000 in
theorem tdel_new : TDelNew := by
  intro w v u l k hv hu hl hkl
  have CW : Hid (Calls Try.prog 62 #[v, u] w fun e w' => e = .returned (.int .i64 (getE l k)) ∧ w.grownBy w' none) := checkWith_any w v u l k hv hu hl
  obtain ⟨a, cap, rfl⟩ := hv.shape
  obtain ⟨ka, kcap, rfl⟩ := hu.shape
  by_cases hE : getE l k = 0
  · have hT := getE_tree hE
    have hD : delF l k = delL l k := by unfold delF; rw [if_pos hE]
    have hG := del_next l k hT.rises
    have PL1 : Hid (∀ w', w.grownBy w' none → Calls Try.prog 60 #[.slice a l.length cap, .slice ka k.length kcap] w' fun e w'' => e = .returned (.tuple #[.int .i64 (posF l k : Int), .int .i64 (nextF l k : Int)]) ∧ w'.grownBy w'' none) := fun w' hg => place_any w' _ _ l k (hv.grown hg) (hu.grown hg) hT.rises hT.room
    have hroom := hT.room
    have hnx := next_le l k
    rw [hE] at CW ⊢
    rw [hD, hG]
    clear hD hG hE
    generalize posF l k = n at *
    generalize nextF l k = m at *
    obtain ⟨n1, n2, n3⟩ := hnx
    have i1 : (n : Int) ≤ (l.length : Int) := by omega
    have i2 : (m : Int) ≤ (l.length : Int) := by omega
    obtain ⟨R, hR⟩ : ∃ R, R = l.take n ++ l.drop m := ⟨_, rfl⟩
    rw [← hR]
    have HR : Hid (R = l.take n ++ l.drop m) := hR
    clear hR
    go_enter Try.func78, Try.ntmps78
    go_wp2_with fail
    refine CW.out.mono ?_
    rintro e w1 ⟨rfl, hg1⟩
    go_wp2_with fail
    refine (PL1.out _ hg1).mono ?_
    rintro e w2 ⟨rfl, hg2⟩
    obtain ⟨a1, c1, r1, q1⟩ := pslice_h a cap l n (by omega) hv.cap
    obtain ⟨a2, c2, r2, q2⟩ := pslice_l a cap l m (by omega)
    have hgw := grown_trans hg1 hg2
    have JO : Hid (Calls Try.prog 61 #[.slice (some ⟨w2.heap.size, 0, none⟩) 2 2] (w2.alloc (.cells #[.slice a1 n c1, .slice a2 (l.length - m) c2] 41)).drew fun e w'' => ∃ v', e = .returned v' ∧ PairsB 0 w'' v' R ∧ w2.grownBy w'' none) := by
      rw [HR.out]
      have hg : w2.grownBy (w2.alloc (.cells #[.slice a1 n c1, .slice a2 (l.length - m) c2] 41)).drew none := grown_drew (World.grownBy_alloc _ _ _)
      have hb : (w2.alloc (.cells #[.slice a1 n c1, .slice a2 (l.length - m) c2] 41)).drew.heap[w2.heap.size]? = some (.cells #[.slice a1 n c1, .slice a2 (l.length - m) c2] 41) := heap_alloc_new w2 _
      generalize (w2.alloc (.cells #[.slice a1 n c1, .slice a2 (l.length - m) c2] 41)).drew = w' at *
      have h1 := q1 w' (hv.grown (grown_trans hgw hg))
      have h2 := q2 w' (hv.grown (grown_trans hgw hg))
      have := joined_any w' (.slice (some ⟨w2.heap.size, 0, none⟩) 2 2) [l.take n, l.drop m] ⟨_, _, rfl, fun i hi => ?_⟩ (by simp; omega) (by simp) (fun q hq => ?_)
      · refine this.mono ?_
        rintro e w4 ⟨v4, rfl, h4, hg4⟩
        exact ⟨v4, rfl, by simpa using h4.pairsB, grown_trans hg hg4⟩
      · match i, hi with
        | 0, _ => exact ⟨_, by simp [World.cell?, hb], h1⟩
        | 1, _ => exact ⟨_, by simp [World.cell?, hb], h2⟩
      · have hq' : q ∈ l := by
          simp only [List.flatten_cons, List.flatten_nil, List.append_nil, List.mem_append] at hq
          rcases hq with hq | hq
          · exact List.mem_of_mem_take hq
          · exact List.mem_of_mem_drop hq
        have := hT.pairs q hq'
        omega
    clear q1 q2
    go_wp2_with fail
    go_region_with (go_at_call 61; refine JO.out.mono ?_; rintro e w3 ⟨v3, rfl, ho3, hg3⟩; obtain ⟨a3, c3, rfl⟩ := ho3.shape)
    go_wp2
    go_ret2
    exact ⟨_, rfl, ho3, grown_trans hgw hg3⟩
  · have hD : delF l k = [] := by unfold delF; rw [if_neg hE]
    rw [hD]
    generalize getE l k = z at *
    have hz : (z != 0) = true := by simpa using hE
    clear hD hv hu
    go_enter Try.func78, Try.ntmps78
    go_wp2_with fail
    refine CW.out.mono ?_
    rintro e w1 ⟨rfl, hg1⟩
    go_wp2
    go_ret2
    exact ⟨_, rfl, pairsB_nil _ _, hg1⟩
theorem tdel_ok : TDelOK := fun w v u l k h1 h2 h3 h4 => (tdel_new w v u l k h1 h2 h3 h4).mono fun e w' h => by
  obtain ⟨x, h1, h2, h3⟩ := h
  exact ⟨x, h1, h2.list, h3⟩
end Go.Proofs.Ytpmfbfflacbmjac
