/-
  The walks of canopylaw's TreeChecks, TreeGets, TreePuts, TreeDeletes, TreeRanges, over what the code must keep.
-/
import Derived.Test.YtdpoickggdgddaaTCCheck
import Derived.Test.YtdpoickggdgddaaTCGet
import Derived.Test.YtdpoickggdgddaaTCPut
import Derived.Test.YtdpoickggdgddaaTCDelete
import Derived.Test.YtdpoickggdgddaaTCRange
import Derived.Test.YtdpoickggdgddaaRGet
import Derived.Test.YtdpoickggdgddaaRPut
import Derived.Test.YtdpoickggdgddaaRDel
import Derived.Test.YtdpoickggdgddaaLPairs
import Derived.Test.YtdpoickggdgddaaLPairOf
import Derived.Test.YtdpoickggdgddaaLFind
namespace Go.Proofs.Ytdpoickggdgddaa
open Go.RowKit
set_option maxRecDepth 100000 in
set_option maxHeartbeats 1000000 in
theorem treeChecks_walk (hC : TCheckOK) (w : World) (v : Value) (l : PL) (hv : PairsIs w v l) (hl : Fits l) :
    Calls Try.prog 3 #[v] w fun e w' => e = .returned (.bool true) ∧ w.grownBy w' none := by
  have P1 : Hid (Calls Try.prog 9 #[v] w fun e w' => ∃ v', e = .returned v' ∧ OwnP w.heap.size w' v' l ∧ w.grownBy w' none) := pairs_any w v l hv hl.many hl.each
  have HC : Hid TCheckOK := hC
  clear hC
  go_enter Try.func3, Try.ntmps3
  go_wp2_with fail
  refine P1.out.mono ?_
  rintro e w1 ⟨v1, rfl, ho1, hg1⟩
  go_wp2_with fail
  refine (HC.out _ _ l ho1.list hl).mono ?_
  rintro e w2 ⟨rfl, hg2⟩
  go_wp2_with fail
  refine (pairsFault_any _ _ l (hv.grown (grown_trans hg1 hg2))).mono ?_
  rintro e w3 ⟨rfl, hg3⟩
  go_wp2
  go_ret
  exact ⟨rfl, grown_trans hg1 (grown_trans hg2 hg3)⟩
set_option maxRecDepth 100000 in
set_option maxHeartbeats 1000000 in
theorem treeGets_walk (hC : TGetOK) (w : World) (v u : Value) (l : PL) (k : List UInt8) (hv : PairsIs w v l) (hu : SliceIs w u k) (hl : Fits l) (hk : k.length ≤ 140737488355328) :
    Calls Try.prog 4 #[v, u] w fun e w' => e = .returned (.bool true) ∧ w.grownBy w' none := by
  have P1 : Hid (Calls Try.prog 9 #[v] w fun e w' => ∃ v', e = .returned v' ∧ OwnP w.heap.size w' v' l ∧ w.grownBy w' none) := pairs_any w v l hv hl.many hl.each
  have HC : Hid TGetOK := hC
  clear hC
  go_enter Try.func4, Try.ntmps4
  go_wp2_with fail
  refine P1.out.mono ?_
  rintro e w1 ⟨v1, rfl, ho1, hg1⟩
  go_wp2_with fail
  refine (octets_any _ _ _ (hu.grown hg1) hk).mono ?_
  rintro e w2 ⟨v2, rfl, ho2, hg2⟩
  go_wp2_with fail
  refine (HC.out _ _ _ l k (ho1.grownNone hg2).list ho2.slice hl hk).mono ?_
  rintro e w3 ⟨x, rfl, hx, hg3⟩
  have hg13 := grown_trans hg1 (grown_trans hg2 hg3)
  obtain ⟨xa, xc, rfl⟩ := hx.shape
  have HX : Hid (SliceIs w3 (.slice xa (getV l k).length xc) (getV l k)) := hx
  have HG : Hid (∀ w', w.grownBy w' none → Calls Try.prog 13 #[v, u] w' fun e w'' => ∃ x, e = .returned (.tuple #[.agg #[.bool (getB l k), x], .int .i64 (getE l k)]) ∧ SliceIs w'' x (getV l k) ∧ w'.grownBy w'' none) := fun w' hg => getOf_any w' v u l k (hv.grown hg) (hu.grown hg)
  have HSF : Hid (∀ w' x y, SliceIs w' x (getV l k) → SliceIs w' y (getV l k) → Calls Try.prog 14 #[.agg #[.bool (getB l k), x], .agg #[.bool (getB l k), y]] w' fun e w'' => e = .returned (.bool true) ∧ w'.grownBy w'' none) := fun w' x y h1 h2 => by
    have := sameFinding_any w' (getB l k) (getB l k) x y _ _ h1 h2
    simpa using this
  clear ho1 ho2 hx hv hu HC P1
  generalize getV l k = V at *
  generalize getB l k = B at *
  generalize getE l k = E at *
  go_wp2_with fail
  refine (HG.out _ (grown_alloc hg13 _)).mono ?_
  rintro e w4 ⟨y, rfl, hy, hg4⟩
  obtain ⟨ya, yc, rfl⟩ := hy.shape
  have HY : Hid (SliceIs w4 (.slice ya V.length yc) V) := hy
  clear hy
  obtain ⟨cA, cB, _, _⟩ := pair_room hg4 (heap_alloc_new w3 _)
  have hgw : w.grownBy w4 none := grown_trans (grown_alloc hg13 _) hg4
  have HX4 : Hid (SliceIs w4 (.slice xa V.length xc) V) := (HX.out.alloc _).grown hg4
  have hga : w4.grownBy (w4.alloc (.cells #[.bool B, .slice ya V.length yc] 29)) none := World.grownBy_alloc _ _ _
  have cE := hga.cell cA (by simp)
  have cF := hga.cell cB (by simp)
  go_wp2_with fail
  refine (HSF.out _ _ _ (HX4.out.alloc _) (HY.out.alloc _)).mono ?_
  rintro e w5 ⟨rfl, hg5⟩
  go_wp2
  go_ret
  exact ⟨rfl, grown_trans (grown_alloc hgw _) hg5⟩
set_option maxRecDepth 100000 in
set_option maxHeartbeats 1000000 in
theorem treeDeletes_walk (hC : TDelOK) (w : World) (v u : Value) (l : PL) (k : List UInt8) (hv : PairsIs w v l) (hu : SliceIs w u k) (hl : Fits l) (hk : k.length ≤ 140737488355328) :
    Calls Try.prog 6 #[v, u] w fun e w' => e = .returned (.bool true) ∧ w.grownBy w' none := by
  have P1 : Hid (Calls Try.prog 9 #[v] w fun e w' => ∃ v', e = .returned v' ∧ OwnP w.heap.size w' v' l ∧ w.grownBy w' none) := pairs_any w v l hv hl.many hl.each
  have HC : Hid TDelOK := hC
  clear hC
  go_enter Try.func6, Try.ntmps6
  go_wp2_with fail
  refine P1.out.mono ?_
  rintro e w1 ⟨v1, rfl, ho1, hg1⟩
  go_wp2_with fail
  refine (octets_any _ _ _ (hu.grown hg1) hk).mono ?_
  rintro e w2 ⟨v2, rfl, ho2, hg2⟩
  go_wp2_with fail
  refine (HC.out _ _ _ l k (ho1.grownNone hg2).list ho2.slice hl hk).mono ?_
  rintro e w3 ⟨x, rfl, hx, hg3⟩
  have hg13 := grown_trans hg1 (grown_trans hg2 hg3)
  go_wp2_with fail
  refine (deletedOf_any _ _ _ l k (hv.grown hg13) (hu.grown hg13)).mono ?_
  rintro e w4 ⟨y, rfl, hy, hg4⟩
  have hdl : (delF l k).length ≤ 140737488355328 := by
    have h1 := hl.len
    have h2 := del_len l k
    unfold delF
    by_cases h : getE l k = 0
    · rw [if_pos h]; omega
    · rw [if_neg h]; simp
  have S1 : Hid (Calls Try.prog 18 #[x, y] w4 fun e w' => e = .returned (.bool true) ∧ w4.grownBy w' none) := by
    have := samePairs_any w4 x y _ _ (hx.grown hg4) hy hdl
    rw [decide_eq_true rfl] at this
    exact this
  have S2 : Hid (∀ w', w4.grownBy w' none → Calls Try.prog 18 #[v1, v] w' fun e w'' => e = .returned (.bool true) ∧ w'.grownBy w'' none) := fun w' hg => by
    have := samePairs_any w' v1 v _ _ (ho1.list.grown (grown_trans hg2 (grown_trans hg3 (grown_trans hg4 hg)))) (hv.grown (grown_trans hg13 (grown_trans hg4 hg))) hl.len
    rw [decide_eq_true rfl] at this
    exact this
  generalize getE l k = E at *
  clear hdl hx hy hv hu ho1 ho2 P1 HC
  go_wp2_with fail
  refine S1.out.mono ?_
  rintro e w5 ⟨rfl, hg5⟩
  go_wp2_with fail
  refine (S2.out _ hg5).mono ?_
  rintro e w6 ⟨rfl, hg6⟩
  go_wp2
  go_ret
  exact ⟨rfl, grown_trans hg13 (grown_trans hg4 (grown_trans hg5 hg6))⟩
set_option maxRecDepth 100000 in
set_option maxHeartbeats 1000000 in
theorem treeRanges_walk (hC : TRangeOK) (w : World) (v u x : Value) (l : PL) (k t : List UInt8) (hv : PairsIs w v l) (hu : SliceIs w u k) (hx : SliceIs w x t) (hl : Fits l) (hk : k.length ≤ 140737488355328) (ht : t.length ≤ 140737488355328) :
    Calls Try.prog 7 #[v, u, x] w fun e w' => e = .returned (.bool true) ∧ w.grownBy w' none := by
  have P1 : Hid (Calls Try.prog 9 #[v] w fun e w' => ∃ v', e = .returned v' ∧ OwnP w.heap.size w' v' l ∧ w.grownBy w' none) := pairs_any w v l hv hl.many hl.each
  have HC : Hid TRangeOK := hC
  clear hC
  go_enter Try.func7, Try.ntmps7
  go_wp2_with fail
  refine P1.out.mono ?_
  rintro e w1 ⟨v1, rfl, ho1, hg1⟩
  go_wp2_with fail
  refine (octets_any _ _ _ (hu.grown hg1) hk).mono ?_
  rintro e w2 ⟨v2, rfl, ho2, hg2⟩
  go_wp2_with fail
  refine (octets_any _ _ _ (hx.grown (grown_trans hg1 hg2)) ht).mono ?_
  rintro e w2' ⟨v3, rfl, ho3, hg2'⟩
  go_wp2_with fail
  refine (HC.out _ _ _ _ l k t (ho1.grownNone (grown_trans hg2 hg2')).list (ho2.grownNone hg2').slice ho3.slice hl hk ht).mono ?_
  rintro e w3 ⟨z, rfl, hz, hg3⟩
  have hg23 := grown_trans hg2 (grown_trans hg2' hg3)
  have hg13 := grown_trans hg1 hg23
  go_wp2_with fail
  refine (rangeOf_any _ _ _ _ l k t (hv.grown hg13) (hu.grown hg13) (hx.grown hg13)).mono ?_
  rintro e w4 ⟨y, rfl, hy, hg4⟩
  have hdl : (rangeF l k t).length ≤ 140737488355328 := by
    have h1 := hl.len
    have h2 := range_len l k t
    unfold rangeF
    by_cases h : rangeE l k t = 0
    · rw [if_pos h]; omega
    · rw [if_neg h]; simp
  have S1 : Hid (Calls Try.prog 18 #[z, y] w4 fun e w' => e = .returned (.bool true) ∧ w4.grownBy w' none) := by
    have := samePairs_any w4 z y _ _ (hz.grown hg4) hy hdl
    rw [decide_eq_true rfl] at this
    exact this
  have S2 : Hid (∀ w', w4.grownBy w' none → Calls Try.prog 18 #[v1, v] w' fun e w'' => e = .returned (.bool true) ∧ w'.grownBy w'' none) := fun w' hg => by
    have := samePairs_any w' v1 v _ _ (ho1.list.grown (grown_trans hg23 (grown_trans hg4 hg))) (hv.grown (grown_trans hg13 (grown_trans hg4 hg))) hl.len
    rw [decide_eq_true rfl] at this
    exact this
  generalize rangeE l k t = E at *
  clear hdl hx hy hz hv hu ho1 ho2 ho3 P1 HC
  go_wp2_with fail
  refine S1.out.mono ?_
  rintro e w5 ⟨rfl, hg5⟩
  go_wp2_with fail
  refine (S2.out _ hg5).mono ?_
  rintro e w6 ⟨rfl, hg6⟩
  go_wp2
  go_ret
  exact ⟨rfl, grown_trans hg13 (grown_trans hg4 (grown_trans hg5 hg6))⟩
set_option maxRecDepth 100000 in
set_option maxHeartbeats 1000000 in
theorem treePuts_walk (hC : TPutOK) (w : World) (v u : Value) (l : PL) (p : Pr) (hv : PairsIs w v l) (hu : PairIs w u p) (hl : Fits l) (h1 : p.1.length ≤ 140737488355328) (h2 : p.2.length ≤ 140737488355328) :
    Calls Try.prog 5 #[v, u] w fun e w' => e = .returned (.bool true) ∧ w.grownBy w' none := by
  obtain ⟨uk, uv, rfl, r1, r2⟩ := hu
  obtain ⟨W0, hW0⟩ : ∃ W0 : World, W0 = w.alloc (.cells #[uk, uv] 36) := ⟨_, rfl⟩
  have hgW : w.grownBy W0 none := by rw [hW0]; exact World.grownBy_alloc _ _ _
  have HW0 : Hid (W0 = w.alloc (.cells #[uk, uv] 36)) := hW0
  have C0 : Hid (W0.heap[w.heap.size]? = some (.cells #[uk, uv] 36)) := by rw [hW0]; exact heap_alloc_new w _
  clear hW0
  have P1 : Hid (Calls Try.prog 9 #[v] W0 fun e w' => ∃ v', e = .returned v' ∧ OwnP W0.heap.size w' v' l ∧ W0.grownBy w' none) := pairs_any W0 v l (hv.grown hgW) hl.many hl.each
  have HC : Hid TPutOK := hC
  clear hC
  go_enter Try.func5, Try.ntmps5
  go_wp2_with fail
  rw [← HW0.out]
  refine P1.out.mono ?_
  rintro e w1 ⟨v1, rfl, ho1, hg1⟩
  obtain ⟨cA, cB, _, _⟩ := pair_room hg1 C0.out
  have hgw1 := grown_trans hgW hg1
  go_wp2_with fail
  refine (pairOf_any _ _ p ⟨uk, uv, rfl, r1.grown hgw1, r2.grown hgw1⟩ h1 h2).mono ?_
  rintro e w2 ⟨xk, xv, rfl, ok, ov, hg2⟩
  go_wp2_with fail
  refine (HC.out _ _ _ l p (ho1.grownNone hg2).list ⟨xk, xv, rfl, ok.slice, ov.slice⟩ hl h1 h2).mono ?_
  rintro e w3 ⟨z, rfl, hz, hg3⟩
  have hg13 := grown_trans hg1 (grown_trans hg2 hg3)
  have hgw3 := grown_trans hgW hg13
  obtain ⟨cC, cD, _, _⟩ := pair_room hg13 C0.out
  go_wp2_with fail
  refine (putOf_any _ _ _ l p (hv.grown hgw3) ⟨uk, uv, rfl, r1.grown hgw3, r2.grown hgw3⟩).mono ?_
  rintro e w4 ⟨y, rfl, hy, hg4⟩
  have hdl : (putF l p).length ≤ 140737488355328 := by
    unfold putF
    by_cases h : putE l p = 0
    · rw [if_pos h]
      have h3 := put_len l p
      have h4 := hl.many
      omega
    · rw [if_neg h]; simp
  have S1 : Hid (Calls Try.prog 18 #[z, y] w4 fun e w' => e = .returned (.bool true) ∧ w4.grownBy w' none) := by
    have := samePairs_any w4 z y _ _ (hz.grown hg4) hy hdl
    rw [decide_eq_true rfl] at this
    exact this
  have S2 : Hid (∀ w', w4.grownBy w' none → Calls Try.prog 18 #[v1, v] w' fun e w'' => e = .returned (.bool true) ∧ w'.grownBy w'' none) := fun w' hg => by
    have := samePairs_any w' v1 v _ _ (ho1.list.grown (grown_trans hg2 (grown_trans hg3 (grown_trans hg4 hg)))) (hv.grown (grown_trans hgw3 (grown_trans hg4 hg))) hl.len
    rw [decide_eq_true rfl] at this
    exact this
  generalize putE l p = E at *
  clear hdl hy hz hv ho1 ok ov r1 r2 P1 HC cA cB cC cD
  go_wp2_with fail
  refine S1.out.mono ?_
  rintro e w5 ⟨rfl, hg5⟩
  go_wp2_with fail
  refine (S2.out _ hg5).mono ?_
  rintro e w6 ⟨rfl, hg6⟩
  go_wp2
  go_ret
  exact ⟨rfl, grown_trans hgw3 (grown_trans hg4 (grown_trans hg5 hg6))⟩
end Go.Proofs.Ytdpoickggdgddaa
