/-
  A tape's block where its cells are written.
-/
import Derived.Test.YtkheombfjgjedaaDoorRTape1
import Derived.Test.YtkheombfjgjedaaDoorPart3
namespace Go.Proofs.YtkheombfjgjedaaDoor
open Go.RowKit
/-- Bytes stay where the cells of a block that holds a slice and a number are written. -/
theorem SliceIs.tapeS {w : World} {v : Value} {bs : List UInt8} (h : SliceIs w v bs) {nb : Nat} {b : Int} {xa : Option Addr} {xn xc : Nat} {t : TypeId} (hb : w.heap[nb]? = some (.cells #[.slice xa xn xc, .int .i64 b] t)) (u1 u2 : Value) :
    SliceIs ((w.setCell ⟨nb, 0, none⟩ u1).setCell ⟨nb, 1, none⟩ u2) v bs := by
  obtain ⟨a, cap, rfl, hc, h⟩ := h
  refine ⟨a, cap, rfl, hc, ?_⟩
  rcases h with h | ⟨p, o, rfl, h⟩
  · exact .inl h
  · by_cases h0 : bs = []
    · exact .inl ⟨h0, fun e => by cases e⟩
    refine .inr ⟨p, o, rfl, fun i hi => ?_⟩
    have hne : p ≠ nb := by
      rintro rfl
      have h1 := h i hi
      simp only [World.cell?, hb] at h1
      match ho : o + i with
      | 0 => rw [ho] at h1; simp at h1
      | 1 => rw [ho] at h1; simp at h1
      | k + 2 => rw [ho] at h1; simp at h1
    rw [World.cell?_setCell_other _ _ _ _ (fun e => hne (congrArg Addr.block e).symm), World.cell?_setCell_other _ _ _ _ (fun e => hne (congrArg Addr.block e).symm)]
    exact h i hi
theorem pair_set2 {W w : World} {b : Nat} {x y : Value} {t : TypeId} (hg : W.grownBy w none) (h : W.heap[b]? = some (.cells #[x, y] t)) : w.heap[b]? = some (.cells #[x, y] t) := by
  rw [hg.block b (Array.getElem?_eq_some_iff.1 h).1 (by simp)]; exact h
end Go.Proofs.YtkheombfjgjedaaDoor
