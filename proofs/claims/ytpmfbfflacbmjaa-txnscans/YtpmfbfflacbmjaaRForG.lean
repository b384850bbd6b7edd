/-
  The walk of the document's answer to P5.3: ForestGet.
-/
import Derived.Test.YtpmfbfflacbmjaaPart17
import Derived.Test.YtpmfbfflacbmjaaRGet
import Derived.Test.YtpmfbfflacbmjaaPart3
namespace Go.Proofs.Ytpmfbfflacbmjaa
open Go.RowKit
set_option maxRecDepth 100000 in
set_option maxHeartbeats 1000000 in
theorem forestGet_any (w : World) (v r u : Value) (l : FL) (n k : List UInt8) (hv : TensIs w v l) (hr : SliceIs w r n) (hu : SliceIs w u k) :
    Calls Try.prog 56 #[v, r, u] w fun e w' => ∃ x, e = .returned (.tuple #[.agg #[.bool (fgetB l n k), x], .int .i64 (fgetE l n k)]) ∧ SliceIs w' x (fgetV l n k) ∧ w.grownBy w' none := by
  obtain ⟨ra, rc, rfl⟩ := hr.shape
  obtain ⟨W0, hW0⟩ : ∃ W0 : World, W0 = w.alloc (.cells #[.bool false, .slice none 0 0] 45) := ⟨_, rfl⟩
  have hgW : w.grownBy W0 none := by rw [hW0]; exact World.grownBy_alloc _ _ _
  have C0 : Hid (W0.heap[w.heap.size]? = some (.cells #[.bool false, .slice none 0 0] 45)) := by rw [hW0]; exact heap_alloc_new w _
  have HW0 : Hid (W0 = w.alloc (.cells #[.bool false, .slice none 0 0] 45)) := hW0
  have FN : Hid (Calls Try.prog 86 #[v, .slice ra n.length rc] W0 fun e w' => e = .returned (.int .i64 (fnE l n)) ∧ W0.grownBy w' none) := forestAndName_any W0 v l ra n rc (hv.grown hgW)
  by_cases hE : fnE l n = 0
  · rw [fgetE, fgetB, fgetV, if_pos hE, if_pos hE, if_pos hE]
    rw [hE] at FN
    have hroom := (fnE_forest hE).1.room
    have PO : Hid (∀ w', W0.grownBy w' none → Calls Try.prog 87 #[v, .slice ra n.length rc] w' fun e w'' => ∃ x, e = .returned x ∧ PairsIs w' x (ofF l n) ∧ w'' = w') := fun w' hg => pairsOf_any w' v _ l n ((hv.grown hgW).grown hg) ((hr.grown hgW).grown hg) hroom
    have GO : Hid (∀ w' x, W0.grownBy w' none → PairsIs w' x (ofF l n) → Calls Try.prog 88 #[x, u] w' fun e w'' => ∃ ya yc, e = .returned (.tuple #[.agg #[.bool (getB (ofF l n) k), .slice ya (getV (ofF l n) k).length yc], .int .i64 (getE (ofF l n) k)]) ∧ SliceIs w'' (.slice ya (getV (ofF l n) k).length yc) (getV (ofF l n) k) ∧ w'.grownBy w'' none) := fun w' x hg hx => (getOf_any w' x u _ k hx ((hu.grown hgW).grown hg)).mono (by
      rintro e w'' ⟨y, rfl, hy, hg'⟩
      obtain ⟨ya, yc, rfl⟩ := hy.shape
      exact ⟨ya, yc, rfl, hy, hg'⟩)
    generalize getB (ofF l n) k = GB at *
    generalize getV (ofF l n) k = GV at *
    generalize getE (ofF l n) k = GE at *
    clear hE hroom hv hu hr hW0
    go_enter Try.func56, Try.ntmps56
    go_wp2_with fail
    rw [← HW0.out]
    refine FN.out.mono ?_
    rintro e w1 ⟨rfl, hg1⟩
    go_wp2_with fail
    refine (PO.out _ hg1).mono ?_
    rintro e w2 ⟨x, rfl, hx, rfl⟩
    go_wp2_with fail
    refine (GO.out _ _ hg1 hx).mono ?_
    rintro e w3 ⟨ya, yc, rfl, hy, hg3⟩
    have hg13 := grown_trans hg1 hg3
    have hga : w3.grownBy (w3.alloc (.cells #[.bool GB, .slice ya GV.length yc] 45)) none := World.grownBy_alloc _ _ _
    obtain ⟨x0, x1, _, _⟩ := two_cells' (heap_alloc_new w3 (.cells #[.bool GB, .slice ya GV.length yc] 45))
    obtain ⟨cA, cB, fA, fB⟩ := pair_room (grown_trans hg13 hga) C0.out
    obtain ⟨cC, cD⟩ := pair_set (grown_trans hg13 hga) C0.out (.bool GB) (.slice ya GV.length yc)
    have HB := pair_old (grown_trans hg13 hga) C0.out
    have HY : Hid (SliceIs (w3.alloc (.cells #[.bool GB, .slice ya GV.length yc] 45)) (.slice ya GV.length yc) GV) := hy.grown hga
    have HYS : Hid (SliceIs (((w3.alloc (.cells #[.bool GB, .slice ya GV.length yc] 45)).setCell ⟨w.heap.size, 0, none⟩ (.bool GB)).setCell ⟨w.heap.size, 1, none⟩ (.slice ya GV.length yc)) (.slice ya GV.length yc) GV) := HY.out.findS HB _ _
    have hgq := grown_setNew (grown_setNew (grown_trans hgW (grown_trans hg13 hga)) w.heap.size (Nat.le_refl _) 0 (.bool GB)) w.heap.size (Nat.le_refl _) 1 (.slice ya GV.length yc)
    clear hx hy HB HY
    go_wp2
    refine bodyPost_ret (v := .tuple #[.agg #[.bool GB, .slice ya GV.length yc], .int .i64 GE]) (by simp [results, Try.results56, go_sem, cC, cD]) rfl ?_
    exact ⟨_, rfl, HYS.out, hgq⟩
  · rw [fgetE, fgetB, fgetV, if_neg hE, if_neg hE, if_neg hE]
    generalize fnE l n = z at *
    have hz : (z != 0) = true := by simpa using hE
    clear hW0 hv hu hr
    go_enter Try.func56, Try.ntmps56
    go_wp2_with fail
    rw [← HW0.out]
    refine FN.out.mono ?_
    rintro e w1 ⟨rfl, hg1⟩
    obtain ⟨cA, cB, fA, fB⟩ := pair_room hg1 C0.out
    obtain ⟨cC, cD⟩ := pair_set hg1 C0.out (.bool false) (.slice none 0 0)
    go_wp2
    refine bodyPost_ret (v := .tuple #[.agg #[.bool false, .slice none 0 0], .int .i64 z]) (by simp [results, Try.results56, go_sem, cC, cD]) rfl ?_
    exact ⟨_, rfl, sliceIs_nil _, grown_setNew (grown_setNew (grown_trans hgW hg1) _ (by omega) _ _) _ (by omega) _ _⟩
end Go.Proofs.Ytpmfbfflacbmjaa
