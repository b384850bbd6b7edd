/-
  The walk of canopylaw.ProofProves, over what the code must keep.
-/
import Derived.Test.YtedmhejnbapklaaDoorPCProve
import Derived.Test.YtedmhejnbapklaaDoorPart5
import Derived.Test.YtedmhejnbapklaaDoorLPairs
import Derived.Test.YtedmhejnbapklaaDoorRProofOf
import Derived.Test.YtedmhejnbapklaaDoorOctets
namespace Go.Proofs.YtedmhejnbapklaaDoor
open Go.RowKit
theorem ProofIs.aggP {w : World} {v : Value} {p : Prf} (h : ProofIs w v p) : ∃ sa sc ka kc va vc, v = .agg #[.bool p.empty, .slice sa p.steps.length sc, .slice ka p.pair.1.length kc, .slice va p.pair.2.length vc] := by
  obtain ⟨vs, vk, vv, rfl, hs, h1, h2⟩ := h
  obtain ⟨sa, sc, rfl⟩ := hs.shape
  obtain ⟨ka, kc, rfl⟩ := h1.shape
  obtain ⟨va, vc, rfl⟩ := h2.shape
  exact ⟨sa, sc, ka, kc, va, vc, rfl⟩
theorem proveF_steps (l : PL) (k : List UInt8) : (proveF l k).steps.length ≤ 60 := by
  unfold proveF
  by_cases hE : getE l k = 0
  · rw [if_pos hE]
    have hT := getE_tree hE
    unfold proveL
    by_cases h0 : l.length = 0
    · rw [if_pos h0]; simp
    · rw [if_neg h0]
      have := steps_len k hT (by omega)
      have := hT.room
      show (stepsL l k).length ≤ 60
      omega
  · rw [if_neg hE]; simp [noPrf]
set_option maxRecDepth 100000 in
set_option maxHeartbeats 2000000 in
theorem proofProves_walk (hC : PProveOK) (w : World) (v u : Value) (l : PL) (k : List UInt8) (hv : PairsIs w v l) (hu : SliceIs w u k) (hl : Fits l) (hk : k.length ≤ 140737488355328) (ht : Tabs w) :
    Calls Tryd.prog 3 #[v, u] w fun e w' => e = .returned (.bool true) ∧ w.grownBy w' none := by
  have P1 : Hid (Calls Tryd.prog 8 #[v] w fun e w' => ∃ v', e = .returned v' ∧ OwnP w.heap.size w' v' l ∧ w.grownBy w' none) := pairs_any w v l hv hl.many hl.each
  have OC : Hid (∀ w', w.grownBy w' none → Calls Tryd.prog 10 #[u] w' fun e w'' => ∃ v', e = .returned v' ∧ Own w'.heap.size w'' v' k ∧ w'.grownBy w'' none) := fun w' hg => octets_any w' u k (hu.grown hg) hk
  have HC : Hid (∀ w' x y, w.grownBy w' none → PairsIs w' x l → SliceIs w' y k → Calls Tryd.prog 9 #[x, y] w' fun e w'' => ∃ sa sc ka kc va vc, e = .returned (.tuple #[.agg #[.bool (proveF l k).empty, .slice sa (proveF l k).steps.length sc, .slice ka (proveF l k).pair.1.length kc, .slice va (proveF l k).pair.2.length vc], .int .i64 (getE l k)]) ∧ ProofIs w'' (.agg #[.bool (proveF l k).empty, .slice sa (proveF l k).steps.length sc, .slice ka (proveF l k).pair.1.length kc, .slice va (proveF l k).pair.2.length vc]) (proveF l k) ∧ w'.grownBy w'' none) := fun w' x y hg h1 h2 => (hC w' x y l k h1 h2 hl (ht.grownNone hg)).mono (by
    rintro e w'' ⟨z, rfl, hz, hg'⟩
    have hz := hz.is
    obtain ⟨sa, sc, ka, kc, va, vc, rfl⟩ := hz.aggP
    exact ⟨sa, sc, ka, kc, va, vc, rfl, hz, hg'⟩)
  have HD : Hid (∀ w', w.grownBy w' none → Calls Tryd.prog 11 #[v, u] w' fun e w'' => ∃ sa sc ka kc va vc, e = .returned (.tuple #[.agg #[.bool (proveF l k).empty, .slice sa (proveF l k).steps.length sc, .slice ka (proveF l k).pair.1.length kc, .slice va (proveF l k).pair.2.length vc], .int .i64 (getE l k)]) ∧ ProofIs w'' (.agg #[.bool (proveF l k).empty, .slice sa (proveF l k).steps.length sc, .slice ka (proveF l k).pair.1.length kc, .slice va (proveF l k).pair.2.length vc]) (proveF l k) ∧ w'.grownBy w'' none) := fun w' hg => (proofOf_any w' v u l k (hv.grown hg) (hu.grown hg)).mono (by
    rintro e w'' ⟨z, rfl, hz, hg'⟩
    obtain ⟨sa, sc, ka, kc, va, vc, rfl⟩ := hz.aggP
    exact ⟨sa, sc, ka, kc, va, vc, rfl, hz, hg'⟩)
  have hst := proveF_steps l k
  have SP : Hid (∀ (w' : World) (x y : Value), ProofIs w' x (proveF l k) → ProofIs w' y (proveF l k) → Calls Tryd.prog 12 #[x, y] w' fun e w'' => e = .returned (.bool true) ∧ w'.grownBy w'' none) := fun w' x y h1 h2 => sameProof_same w' x y _ h1 h2 (by omega)
  have SL : Hid (∀ (w' : World) (x : Value), w.grownBy w' none → PairsIs w' x l → Calls Tryd.prog 13 #[x, v] w' fun e w'' => e = .returned (.bool true) ∧ w'.grownBy w'' none) := fun w' x hg hx => by
    have := samePairs_any w' x v _ _ hx (hv.grown hg) hl.len
    rw [decide_eq_true rfl] at this
    exact this
  generalize proveF l k = PF at *
  generalize getE l k = E at *
  generalize PF.steps.length = ns at *
  generalize PF.pair.1.length = nk at *
  generalize PF.pair.2.length = nv at *
  generalize PF.empty = pe at *
  obtain ⟨va0, vc0, rfl⟩ := hv.shape
  obtain ⟨ua0, uc0, rfl⟩ := hu.shape
  clear hC hv hu hl hk ht hst
  go_enter Tryd.func3, Tryd.ntmps3
  go_wp2_with fail
  refine P1.out.mono ?_
  rintro e w1 ⟨v1, rfl, ho1, hg1⟩
  obtain ⟨ca, cc, rfl⟩ := ho1.shape
  have HL1 : Hid (PairsIs w1 (.slice ca l.length cc) l) := ho1.list
  clear ho1 P1
  go_wp2_with fail
  refine (OC.out _ hg1).mono ?_
  rintro e w2 ⟨v2, rfl, ho2, hg2⟩
  have hg02 := grown_trans hg1 hg2
  go_wp2_with fail
  refine (HC.out _ _ _ hg02 (HL1.out.grown hg2) ho2.slice).mono ?_
  rintro e w3 ⟨sa, sc, ka, kc, va, vc, rfl, hp3, hg3⟩
  obtain ⟨W3, hW3⟩ : ∃ W3 : World, W3 = w3.alloc (.cells #[.bool pe, .slice sa ns sc, .slice ka nk kc, .slice va nv vc] 29) := ⟨_, rfl⟩
  have HW3 : Hid (W3 = w3.alloc (.cells #[.bool pe, .slice sa ns sc, .slice ka nk kc, .slice va nv vc] 29)) := hW3
  have hga3 : w3.grownBy W3 none := by rw [hW3]; exact World.grownBy_alloc _ _ _
  have bA : W3.heap[w3.heap.size]? = some (.cells #[.bool pe, .slice sa ns sc, .slice ka nk kc, .slice va nv vc] 29) := by rw [hW3]; exact heap_alloc_new w3 _
  obtain ⟨⟨a0, a1, a2, a3⟩, _⟩ := quad_room (grown_refl W3 none) bA
  have HP3 : Hid (ProofIs W3 (.agg #[.bool pe, .slice sa ns sc, .slice ka nk kc, .slice va nv vc]) PF) := hp3.grown hga3
  have hg23 := grown_trans hg2 (grown_trans hg3 hga3)
  have hg03 := grown_trans hg1 hg23
  clear hp3 ho2 hW3 bA OC HC
  go_wp2_with fail
  rw [← HW3.out]
  refine (HD.out _ hg03).mono ?_
  rintro e w4 ⟨ta, tc, la, lc, ma, mc, rfl, hp4, hg4⟩
  obtain ⟨W4, hW4⟩ : ∃ W4 : World, W4 = w4.alloc (.cells #[.bool pe, .slice ta ns tc, .slice la nk lc, .slice ma nv mc] 29) := ⟨_, rfl⟩
  have HW4 : Hid (W4 = w4.alloc (.cells #[.bool pe, .slice ta ns tc, .slice la nk lc, .slice ma nv mc] 29)) := hW4
  have hga4 : w4.grownBy W4 none := by rw [hW4]; exact World.grownBy_alloc _ _ _
  have bB : W4.heap[w4.heap.size]? = some (.cells #[.bool pe, .slice ta ns tc, .slice la nk lc, .slice ma nv mc] 29) := by rw [hW4]; exact heap_alloc_new w4 _
  obtain ⟨⟨b0, b1, b2, b3⟩, _⟩ := quad_room (grown_refl W4 none) bB
  have hg34 := grown_trans hg4 hga4
  have d0 := hg34.cell a0 (by simp)
  have d1 := hg34.cell a1 (by simp)
  have d2 := hg34.cell a2 (by simp)
  have d3 := hg34.cell a3 (by simp)
  have hg04 := grown_trans hg03 hg34
  have S4 : Hid (Calls Tryd.prog 12 #[.agg #[.bool pe, .slice sa ns sc, .slice ka nk kc, .slice va nv vc], .agg #[.bool pe, .slice ta ns tc, .slice la nk lc, .slice ma nv mc]] W4 fun e w'' => e = .returned (.bool true) ∧ W4.grownBy w'' none) := SP.out _ _ _ (HP3.out.grown hg34) (hp4.grown hga4)
  have HL4 : Hid (PairsIs W4 (.slice ca l.length cc) l) := HL1.out.grown (grown_trans hg23 hg34)
  have hEE : (E == E) = true := by simp
  clear hp4 hW4 bB HD SP HP3 HL1 a0 a1 a2 a3
  go_wp2_with (rw [← HW4.out])
  refine S4.out.mono ?_
  rintro e w5 ⟨rfl, hg5⟩
  go_wp2_with fail
  refine (SL.out _ _ (grown_trans hg04 hg5) (HL4.out.grown hg5)).mono ?_
  rintro e w6 ⟨rfl, hg6⟩
  go_wp2
  go_ret
  exact ⟨rfl, grown_trans (grown_trans hg04 hg5) hg6⟩
end Go.Proofs.YtedmhejnbapklaaDoor
