/-
  The walks of canopylaw.ForestGets and ForestRanges, over what the code must keep.
-/
import Derived.Test.YtkkcjnhfbblgiaaPart3
import Derived.Test.YtkkcjnhfbblgiaaRForG
import Derived.Test.YtkkcjnhfbblgiaaRForR
import Derived.Test.YtkkcjnhfbblgiaaLTens
import Derived.Test.YtkkcjnhfbblgiaaLFind
import Derived.Test.YtkkcjnhfbblgiaaLSamePs
import Derived.Test.YtkkcjnhfbblgiaaOctets
namespace Go.Proofs.Ytkkcjnhfbblgiaa
open Go.RowKit
set_option maxRecDepth 100000 in
set_option maxHeartbeats 1000000 in
theorem forestGets_walk (hC : FGetOK) (w : World) (v r u : Value) (l : FL) (n k : List UInt8) (hv : TensIs w v l) (hr : SliceIs w r n) (hu : SliceIs w u k) (hl : FitsT l) (hn : n.length ≤ 140737488355328) (hk : k.length ≤ 140737488355328) :
    Calls Try.prog 5 #[v, r, u] w fun e w' => e = .returned (.bool true) ∧ w.grownBy w' none := by
  have TE : Hid (Calls Try.prog 12 #[v] w fun e w' => ∃ v', e = .returned v' ∧ OwnT w.heap.size w' v' l ∧ w.grownBy w' none) := tenants_any w v l hv hl
  have ON : Hid (∀ w', w.grownBy w' none → Calls Try.prog 9 #[r] w' fun e w'' => ∃ v', e = .returned v' ∧ Own w'.heap.size w'' v' n ∧ w'.grownBy w'' none) := fun w' hg => octets_any w' r n (hr.grown hg) hn
  have OK : Hid (∀ w', w.grownBy w' none → Calls Try.prog 9 #[u] w' fun e w'' => ∃ v', e = .returned v' ∧ Own w'.heap.size w'' v' k ∧ w'.grownBy w'' none) := fun w' hg => octets_any w' u k (hu.grown hg) hk
  have HC : Hid (∀ (w' : World) (x y z : Value), TensIs w' x l → SliceIs w' y n → SliceIs w' z k → Calls Try.prog 14 #[x, y, z] w' fun e w'' => ∃ fa fc, e = .returned (.tuple #[.agg #[.bool (fgetB l n k), .slice fa (fgetV l n k).length fc], .int .i64 (fgetE l n k)]) ∧ SliceIs w'' (.slice fa (fgetV l n k).length fc) (fgetV l n k) ∧ w'.grownBy w'' none) := fun w' x y z h1 h2 h3 => (hC w' x y z l n k h1 h2 h3 hl hn hk).mono (by
    rintro e w'' ⟨f, rfl, hf, hg'⟩
    obtain ⟨fa, fc, rfl⟩ := hf.shape
    exact ⟨fa, fc, rfl, hf, hg'⟩)
  have HG : Hid (∀ w', w.grownBy w' none → Calls Try.prog 15 #[v, r, u] w' fun e w'' => ∃ fa fc, e = .returned (.tuple #[.agg #[.bool (fgetB l n k), .slice fa (fgetV l n k).length fc], .int .i64 (fgetE l n k)]) ∧ SliceIs w'' (.slice fa (fgetV l n k).length fc) (fgetV l n k) ∧ w'.grownBy w'' none) := fun w' hg => (forestGet_any w' v r u l n k (hv.grown hg) (hr.grown hg) (hu.grown hg)).mono (by
    rintro e w'' ⟨f, rfl, hf, hg'⟩
    obtain ⟨fa, fc, rfl⟩ := hf.shape
    exact ⟨fa, fc, rfl, hf, hg'⟩)
  have HSF : Hid (∀ w' x y, SliceIs w' x (fgetV l n k) → SliceIs w' y (fgetV l n k) → Calls Try.prog 16 #[.agg #[.bool (fgetB l n k), x], .agg #[.bool (fgetB l n k), y]] w' fun e w'' => e = .returned (.bool true) ∧ w'.grownBy w'' none) := fun w' x y h1 h2 => by
    have := sameFinding_any w' (fgetB l n k) (fgetB l n k) x y _ _ h1 h2
    simpa using this
  generalize fgetV l n k = V at *
  generalize fgetB l n k = B at *
  generalize fgetE l n k = E at *
  clear hC hv hr hu hl hn hk
  go_enter Try.func5, Try.ntmps5
  go_wp2_with fail
  refine TE.out.mono ?_
  rintro e w1 ⟨v1, rfl, ho1, hg1⟩
  go_wp2_with fail
  refine (ON.out _ hg1).mono ?_
  rintro e w2 ⟨v2, rfl, ho2, hg2⟩
  have hg02 := grown_trans hg1 hg2
  go_wp2_with fail
  refine (OK.out _ hg02).mono ?_
  rintro e w3 ⟨v3, rfl, ho3, hg3⟩
  have hg03 := grown_trans hg02 hg3
  go_wp2_with fail
  refine (HC.out _ _ _ _ (ho1.list.grown (grown_trans hg2 hg3)) (ho2.slice.grown hg3) ho3.slice).mono ?_
  rintro e w4 ⟨xa, xc, rfl, hx, hg4⟩
  have hg04 := grown_trans hg03 hg4
  have HX : Hid (SliceIs w4 (.slice xa V.length xc) V) := hx
  clear hx ho1 ho2 ho3 HC TE ON OK
  go_wp2_with fail
  refine (HG.out _ (grown_alloc hg04 _)).mono ?_
  rintro e w5 ⟨ya, yc, rfl, hy, hg5⟩
  have HY : Hid (SliceIs w5 (.slice ya V.length yc) V) := hy
  obtain ⟨cA, cB, _, _⟩ := pair_room hg5 (heap_alloc_new w4 (.cells #[.bool B, .slice xa V.length xc] 32))
  have hgw : w.grownBy w5 none := grown_trans (grown_alloc hg04 _) hg5
  have HX5 : Hid (SliceIs w5 (.slice xa V.length xc) V) := (HX.out.alloc _).grown hg5
  have hga : w5.grownBy (w5.alloc (.cells #[.bool B, .slice ya V.length yc] 32)) none := World.grownBy_alloc _ _ _
  have cE := hga.cell cA (by simp)
  have cF := hga.cell cB (by simp)
  clear hy
  go_wp2_with fail
  refine (HSF.out _ _ _ (HX5.out.alloc _) (HY.out.alloc _)).mono ?_
  rintro e w6 ⟨rfl, hg6⟩
  go_wp2
  go_ret
  exact ⟨rfl, grown_trans (grown_alloc hgw _) hg6⟩
set_option maxRecDepth 100000 in
set_option maxHeartbeats 1000000 in
theorem forestRanges_walk (hC : FRangeOK) (w : World) (v r u t : Value) (l : FL) (n k m : List UInt8) (hv : TensIs w v l) (hr : SliceIs w r n) (hu : SliceIs w u k) (ht : SliceIs w t m) (hl : FitsT l) (hn : n.length ≤ 140737488355328) (hk : k.length ≤ 140737488355328) (hm : m.length ≤ 140737488355328) :
    Calls Try.prog 6 #[v, r, u, t] w fun e w' => e = .returned (.bool true) ∧ w.grownBy w' none := by
  have TE : Hid (Calls Try.prog 12 #[v] w fun e w' => ∃ v', e = .returned v' ∧ OwnT w.heap.size w' v' l ∧ w.grownBy w' none) := tenants_any w v l hv hl
  have ON : Hid (∀ w', w.grownBy w' none → Calls Try.prog 9 #[r] w' fun e w'' => ∃ v', e = .returned v' ∧ Own w'.heap.size w'' v' n ∧ w'.grownBy w'' none) := fun w' hg => octets_any w' r n (hr.grown hg) hn
  have OK : Hid (∀ w', w.grownBy w' none → Calls Try.prog 9 #[u] w' fun e w'' => ∃ v', e = .returned v' ∧ Own w'.heap.size w'' v' k ∧ w'.grownBy w'' none) := fun w' hg => octets_any w' u k (hu.grown hg) hk
  have OM : Hid (∀ w', w.grownBy w' none → Calls Try.prog 9 #[t] w' fun e w'' => ∃ v', e = .returned v' ∧ Own w'.heap.size w'' v' m ∧ w'.grownBy w'' none) := fun w' hg => octets_any w' t m (ht.grown hg) hm
  have HC : Hid (∀ (w' : World) (x y z s : Value), TensIs w' x l → SliceIs w' y n → SliceIs w' z k → SliceIs w' s m → Calls Try.prog 17 #[x, y, z, s] w' fun e w'' => ∃ f, e = .returned (.tuple #[f, .int .i64 (frangeE l n k m)]) ∧ PairsIs w'' f (frangeF l n k m) ∧ w'.grownBy w'' none) := fun w' x y z s h1 h2 h3 h4 => hC w' x y z s l n k m h1 h2 h3 h4 hl hn hk hm
  have HG : Hid (∀ w', w.grownBy w' none → Calls Try.prog 18 #[v, r, u, t] w' fun e w'' => ∃ f, e = .returned (.tuple #[f, .int .i64 (frangeE l n k m)]) ∧ PairsIs w'' f (frangeF l n k m) ∧ w'.grownBy w'' none) := fun w' hg => forestRange_any w' v r u t l n k m (hv.grown hg) (hr.grown hg) (hu.grown hg) (ht.grown hg)
  have hlen : (frangeF l n k m).length ≤ 140737488355328 := by
    unfold frangeF
    by_cases h : fnE l n = 0
    · rw [if_pos h]
      have h1 := (of_tree (fnE_forest h).1 n).room
      have h2 := range_len (ofF l n) k m
      unfold rangeF
      by_cases h3 : rangeE (ofF l n) k m = 0
      · rw [if_pos h3]; omega
      · rw [if_neg h3]; simp
    · rw [if_neg h]; simp
  have HSP : Hid (∀ w' x y, PairsIs w' x (frangeF l n k m) → PairsIs w' y (frangeF l n k m) → Calls Try.prog 19 #[x, y] w' fun e w'' => e = .returned (.bool true) ∧ w'.grownBy w'' none) := fun w' x y h1 h2 => by
    have := samePairs_any w' x y _ _ h1 h2 hlen
    rw [decide_eq_true rfl] at this
    exact this
  generalize frangeF l n k m = V at *
  generalize frangeE l n k m = E at *
  clear hC hv hr hu ht hl hn hk hm hlen
  go_enter Try.func6, Try.ntmps6
  go_wp2_with fail
  refine TE.out.mono ?_
  rintro e w1 ⟨v1, rfl, ho1, hg1⟩
  go_wp2_with fail
  refine (ON.out _ hg1).mono ?_
  rintro e w2 ⟨v2, rfl, ho2, hg2⟩
  have hg02 := grown_trans hg1 hg2
  go_wp2_with fail
  refine (OK.out _ hg02).mono ?_
  rintro e w3 ⟨v3, rfl, ho3, hg3⟩
  have hg03 := grown_trans hg02 hg3
  go_wp2_with fail
  refine (OM.out _ hg03).mono ?_
  rintro e w4 ⟨v4, rfl, ho4, hg4⟩
  have hg04 := grown_trans hg03 hg4
  have hg24 := grown_trans hg3 hg4
  go_wp2_with fail
  refine (HC.out _ _ _ _ _ (ho1.list.grown (grown_trans hg2 hg24)) (ho2.slice.grown hg24) (ho3.slice.grown hg4) ho4.slice).mono ?_
  rintro e w5 ⟨x, rfl, hx, hg5⟩
  have hg05 := grown_trans hg04 hg5
  clear ho1 ho2 ho3 ho4 HC TE ON OK OM
  go_wp2_with fail
  refine (HG.out _ hg05).mono ?_
  rintro e w6 ⟨y, rfl, hy, hg6⟩
  have SS : Hid (Calls Try.prog 19 #[x, y] w6 fun e w'' => e = .returned (.bool true) ∧ w6.grownBy w'' none) := HSP.out _ _ _ (hx.grown hg6) hy
  have hEE : (E == E) = true := by simp
  clear hx hy HSP HG
  go_wp2_with fail
  refine SS.out.mono ?_
  rintro e w7 ⟨rfl, hg7⟩
  go_wp2
  go_ret
  exact ⟨rfl, grown_trans (grown_trans hg05 hg6) hg7⟩
end Go.Proofs.Ytkkcjnhfbblgiaa
