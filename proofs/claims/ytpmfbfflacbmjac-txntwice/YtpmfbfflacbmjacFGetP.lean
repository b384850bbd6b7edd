/-
  forest.Get, as it landed, keeps P5.3.
-/
import Derived.Test.YtpmfbfflacbmjacPart8
import Derived.Test.YtpmfbfflacbmjacFCkP
import Derived.Test.YtpmfbfflacbmjacTGetP
import Derived.Test.YtpmfbfflacbmjacPart7
import Derived.Test.YtpmfbfflacbmjacPart3
namespace Go.Proofs.Ytpmfbfflacbmjac
open Go.RowKit
theorem find_keep {W w : World} {b : Nat} {x y : Value} {t : TypeId} (hg : W.grownBy w none) (h : W.heap[b]? = some (.cells #[x, y] t)) : w.heap[b]? = some (.cells #[x, y] t) := by
  rw [hg.block b (Array.getElem?_eq_some_iff.1 h).1 (by simp)]; exact h
/-- forest.Get keeps P5.3, and what it hands back is new. -/
def FGetNew : Prop := ∀ (w : World) (v r u : Value) (l : FL) (n k : List UInt8), TensIs w v l → SliceIs w r n → SliceIs w u k → FitsT l → n.length ≤ 140737488355328 → k.length ≤ 140737488355328 → Calls Try.prog 13 #[v, r, u] w fun e w' => ∃ x, e = .returned (.tuple #[.agg #[.bool (fgetB l n k), x], .int .i64 (fgetE l n k)]) ∧ PartIs 0 w' x (fgetV l n k) ∧ w.grownBy w' none
theorem finT5 : (46 : Nat) ≠ 5 := by decide
theorem part_findS {w : World} {v : Value} {bs : List UInt8} (h : PartIs 0 w v bs) {b : Nat} {x y : Value} (hb : w.heap[b]? = some (.cells #[x, y] 46)) (u z : Value) : PartIs 0 ((w.setCell ⟨b, 0, none⟩ u).setCell ⟨b, 1, none⟩ z) v bs := by
  have h1 : PartIs 0 (w.setCell ⟨b, 0, none⟩ u) v bs := h.keptT (grown_set (grown_refl w _) 0 u) (.inr ⟨b, _, _, _, rfl, Nat.zero_le _, hb, finT5⟩)
  have hb2 : (w.setCell ⟨b, 0, none⟩ u).heap[b]? = some (.cells (#[x, y].setIfInBounds 0 u) 46) := by
    simp only [World.setCell, Array.getElem?_modify, if_true, hb, Option.map_some]; rfl
  exact h1.keptT (grown_set (grown_refl _ _) 1 z) (.inr ⟨b, _, _, _, rfl, Nat.zero_le _, hb2, finT5⟩)
set_option maxRecDepth 100000 in
set_option maxHeartbeats 1000000 in
theorem fget_new : FGetNew := by
  intro w v r u l n k hv hr hu hl hnl hkl
  obtain ⟨W0, hW0⟩ : ∃ W0 : World, W0 = w.alloc (.cells #[.bool false, .slice none 0 0] 46) := ⟨_, rfl⟩
  have hgW : w.grownBy W0 none := by rw [hW0]; exact World.grownBy_alloc _ _ _
  have C0 : Hid (W0.heap[w.heap.size]? = some (.cells #[.bool false, .slice none 0 0] 46)) := by rw [hW0]; exact heap_alloc_new w _
  have HW0 : Hid (W0 = w.alloc (.cells #[.bool false, .slice none 0 0] 46)) := hW0
  have CP : Hid (Calls Try.prog 29 #[v, r] W0 fun e w' => ∃ x, e = .returned (.tuple #[x, .int .i64 (fnE l n)]) ∧ (fnE l n = 0 → PairsIs w' x (ofF l n)) ∧ (∃ a n c, x = .slice a n c) ∧ W0.grownBy w' none) := checkedPairs_any W0 v r l n (hv.grown hgW) (hr.grown hgW) hl
  obtain ⟨a, cap, rfl⟩ := hv.shape
  obtain ⟨ra, rc, rfl⟩ := hr.shape
  obtain ⟨ka, kcap, rfl⟩ := hu.shape
  by_cases hE : fnE l n = 0
  · have hT := of_tree (fnE_forest hE).1 n
    have e1 : fgetE l n k = getE (ofF l n) k := by rw [fgetE, if_pos hE]
    have e2 : fgetB l n k = getB (ofF l n) k := by rw [fgetB, if_pos hE]
    have e3 : fgetV l n k = getV (ofF l n) k := by rw [fgetV, if_pos hE]
    rw [e1, e2, e3]
    rw [hE] at CP
    have GT : Hid (∀ w' x, W0.grownBy w' none → PairsIs w' x (ofF l n) → Calls Try.prog 32 #[x, .slice ka k.length kcap] w' fun e w'' => ∃ y, e = .returned (.tuple #[.agg #[.bool (getB (ofF l n) k), y], .int .i64 (getE (ofF l n) k)]) ∧ PartIs 0 w'' y (getV (ofF l n) k) ∧ w'.grownBy w'' none) := fun w' x hg hx => tget_new w' x _ _ k hx (hu.grown (grown_trans hgW hg)) hT.fits hkl
    generalize getE (ofF l n) k = E at *
    generalize getB (ofF l n) k = B at *
    generalize getV (ofF l n) k = V at *
    generalize ofF l n = M at *
    clear e1 e2 e3 hE hv hr hu hW0 hT hl
    go_enter Try.func13, Try.ntmps13
    go_wp2_with fail
    rw [← HW0.out]
    refine CP.out.mono ?_
    rintro e w1 ⟨x, rfl, h1, ⟨xa, xn, xc, rfl⟩, hg1⟩
    have H1 : Hid (PairsIs w1 (.slice xa xn xc) M) := h1 trivial
    clear h1
    go_wp2_with fail
    refine (GT.out _ _ hg1 H1.out).mono ?_
    rintro e w2 ⟨y, rfl, h2, hg2⟩
    obtain ⟨ya, yc, rfl⟩ := h2.slice.shape
    have hg12 := grown_trans hg1 hg2
    have hgw := grown_trans hgW hg12
    obtain ⟨cA, cB, fA, fB⟩ := pair_room hg12 C0.out
    obtain ⟨cC, cD⟩ := pair_set hg12 C0.out (.bool B) (.slice ya V.length yc)
    have HS : Hid (PartIs 0 ((w2.setCell ⟨w.heap.size, 0, none⟩ (.bool B)).setCell ⟨w.heap.size, 1, none⟩ (.slice ya V.length yc)) (.slice ya V.length yc) V) := part_findS h2 (find_keep hg12 C0.out) _ _
    clear h2
    go_wp2
    refine bodyPost_ret (v := .tuple #[.agg #[.bool B, .slice ya V.length yc], .int .i64 E]) (by simp [results, Try.results13, go_sem, cC, cD]) rfl ?_
    exact ⟨_, rfl, HS.out, grown_setNew (grown_setNew hgw _ (by omega) _ _) _ (by omega) _ _⟩
  · have e1 : fgetE l n k = fnE l n := by rw [fgetE, if_neg hE]
    have e2 : fgetB l n k = false := by rw [fgetB, if_neg hE]
    have e3 : fgetV l n k = [] := by rw [fgetV, if_neg hE]
    rw [e1, e2, e3]
    generalize fnE l n = z at *
    have hz : (z != 0) = true := by simpa using hE
    clear e1 e2 e3 hv hr hu hW0 hl
    go_enter Try.func13, Try.ntmps13
    go_wp2_with fail
    rw [← HW0.out]
    refine CP.out.mono ?_
    rintro e w1 ⟨x, rfl, h1, ⟨xa, xn, xc, rfl⟩, hg1⟩
    clear h1
    obtain ⟨cA, cB, fA, fB⟩ := pair_room hg1 C0.out
    obtain ⟨cC, cD⟩ := pair_set hg1 C0.out (.bool false) (.slice none 0 0)
    go_wp2
    refine bodyPost_ret (v := .tuple #[.agg #[.bool false, .slice none 0 0], .int .i64 z]) (by simp [results, Try.results13, go_sem, cC, cD]) rfl ?_
    exact ⟨_, rfl, partIs_none _, grown_setNew (grown_setNew (grown_trans hgW hg1) _ (by omega) _ _) _ (by omega) _ _⟩
theorem fget_ok' : FGetOK := fun w v r u l n k h1 h2 h3 h4 h5 h6 => (fget_new w v r u l n k h1 h2 h3 h4 h5 h6).mono (by
  rintro e w' ⟨x, rfl, hx, hg⟩
  exact ⟨x, rfl, hx.slice, hg⟩)
end Go.Proofs.Ytpmfbfflacbmjac
