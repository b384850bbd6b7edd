/-
  A slice's shape, a block of two cells, a block that was named: no type named.
-/
import Derived.Test.YtpefggkhjocanaaDoorBase
namespace Go.Proofs.YtpefggkhjocanaaDoor
open Go.RowKit
theorem alloc_namedR (w : World) (o : Obj) : ∃ W : World, Hid (W = w.alloc o) ∧ w.grownBy W none ∧ Hid (W.heap[w.heap.size]? = some o) := ⟨w.alloc o, rfl, World.grownBy_alloc _ _ _, heap_alloc_new w o⟩
theorem SliceIs.shape {w : World} {v : Value} {bs : List UInt8} (h : SliceIs w v bs) : ∃ a cap, v = .slice a bs.length cap := by
  obtain ⟨a, cap, rfl, _⟩ := h
  exact ⟨a, cap, rfl⟩
theorem pair_room {W w : World} {b : Nat} {x y : Value} {t : TypeId} (hg : W.grownBy w none) (h : W.heap[b]? = some (.cells #[x, y] t)) :
    w.cell? ⟨b, 0, none⟩ = some x ∧ w.cell? ⟨b, 1, none⟩ = some y ∧ w.frozen? ⟨b, 0, none⟩ = false ∧ w.frozen? ⟨b, 1, none⟩ = false := by
  have hb : w.heap[b]? = some (.cells #[x, y] t) := by rw [hg.block b (Array.getElem?_eq_some_iff.1 h).1 (by simp)]; exact h
  refine ⟨by simp [World.cell?, hb], by simp [World.cell?, hb], by simp [World.frozen?, hb], by simp [World.frozen?, hb]⟩
theorem pair_room_elim {W w : World} {b : Nat} {x y : Value} {t : TypeId} (hg : W.grownBy w none) (h : W.heap[b]? = some (.cells #[x, y] t)) {G : Prop}
    (k : w.heap[b]? = some (.cells #[x, y] t) → w.cell? ⟨b, 0, none⟩ = some x → w.cell? ⟨b, 1, none⟩ = some y → w.frozen? ⟨b, 0, none⟩ = false → w.frozen? ⟨b, 1, none⟩ = false → G) : G := by
  obtain ⟨h1, h2, h3, h4⟩ := pair_room hg h
  exact k (by rw [hg.block b (Array.getElem?_eq_some_iff.1 h).1 (by simp)]; exact h) h1 h2 h3 h4
theorem pair_old {W w : World} {b : Nat} {o : Obj} (hg : W.grownBy w none) (h : W.heap[b]? = some o) : w.heap[b]? = some o := by
  rw [hg.block b (Array.getElem?_eq_some_iff.1 h).1 (by simp)]; exact h
end Go.Proofs.YtpefggkhjocanaaDoor
