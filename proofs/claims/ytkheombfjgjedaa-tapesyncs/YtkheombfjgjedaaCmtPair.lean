/-
  Bytes and writes stay where the two cells of another block are written.
-/
import Derived.Test.YtkheombfjgjedaaCmtMem
namespace Go.Proofs.Ytkheombfjgjedaa
open Go.RowKit
theorem SliceIs.setPair {w : World} {v : Value} {bs : List UInt8} (h : SliceIs w v bs) {nb : Nat} {x y : Value} {t : TypeId} (hb : w.heap[nb]? = some (.cells #[x, y] t)) (hx : ∀ q, x ≠ .int .u8 q) (hy : ∀ q, y ≠ .int .u8 q) (u1 u2 : Value) :
    SliceIs ((w.setCell ⟨nb, 0, none⟩ u1).setCell ⟨nb, 1, none⟩ u2) v bs := by
  obtain ⟨a, cap, rfl, hc, h⟩ := h
  refine ⟨a, cap, rfl, hc, ?_⟩
  rcases h with h | ⟨c, o, rfl, h⟩
  · exact .inl h
  · refine .inr ⟨c, o, rfl, fun i hi => ?_⟩
    have h1 := h i hi
    have hne : c ≠ nb := by
      rintro rfl
      match hj : o + i with
      | 0 => rw [hj] at h1; simp [World.cell?, hb] at h1; exact hx _ h1
      | 1 => rw [hj] at h1; simp [World.cell?, hb] at h1; exact hy _ h1
      | n + 2 => rw [hj] at h1; simp [World.cell?, hb] at h1
    rw [World.cell?_setCell_other _ _ _ _ (fun e => hne (congrArg Addr.block e).symm), World.cell?_setCell_other _ _ _ _ (fun e => hne (congrArg Addr.block e).symm)]
    exact h1
theorem WritesIs.setPair {w : World} {v : Value} {l : List Plc} (h : WritesIs w v l) {nb : Nat} {x y : Value} {t : TypeId} (hb : w.heap[nb]? = some (.cells #[x, y] t)) (hx : ∀ q, x ≠ .int .u8 q) (hy : ∀ q, y ≠ .int .u8 q) (u1 u2 : Value) :
    WritesIs ((w.setCell ⟨nb, 0, none⟩ u1).setCell ⟨nb, 1, none⟩ u2) v l := by
  obtain ⟨a, cap, rfl, hc, h⟩ := h
  refine ⟨a, cap, rfl, hc, ?_⟩
  rcases h with h | ⟨c, o, rfl, h⟩
  · exact .inl h
  · refine .inr ⟨c, o, rfl, fun i hi => ?_⟩
    obtain ⟨vn, vk, vv, c1, c2, c3, c4, h1, h2, h3⟩ := h i hi
    have hne : c ≠ nb := by
      rintro rfl
      simp [World.cell?, hb] at c4
    have st : ∀ (j : Nat) (z : Value), w.cell? ⟨c, j, none⟩ = some z → ((w.setCell ⟨nb, 0, none⟩ u1).setCell ⟨nb, 1, none⟩ u2).cell? ⟨c, j, none⟩ = some z := fun j z hz => by
      rw [World.cell?_setCell_other _ _ _ _ (fun e => hne (congrArg Addr.block e).symm), World.cell?_setCell_other _ _ _ _ (fun e => hne (congrArg Addr.block e).symm)]
      exact hz
    exact ⟨vn, vk, vv, st _ _ c1, st _ _ c2, st _ _ c3, st _ _ c4, h1.setPair hb hx hy _ _, h2.setPair hb hx hy _ _, h3.setPair hb hx hy _ _⟩
end Go.Proofs.Ytkheombfjgjedaa
