/-
  A read, as a value.
-/
import Derived.Test.YtghjikifflpeiabDoorRdF
import Derived.Test.YtghjikifflpeiabDoorSlM
namespace Go.Proofs.YtghjikifflpeiabDoor
open Go.RowKit
/-- A read, as a value; one that lies at a place; a list of reads, as it is handed over. -/
def ReadIs (w : World) (v : Value) (r : Rd) : Prop := ∃ vn vk vl, v = .agg #[vn, vk, .bool r.wide, vl] ∧ SliceIs w vn r.name ∧ SliceIs w vk r.key ∧ SliceIs w vl r.last
theorem ReadIs.grown {w w' : World} {v : Value} {r : Rd} (h : ReadIs w v r) (hg : w.grownBy w' none) : ReadIs w' v r := by
  obtain ⟨vn, vk, vl, rfl, h1, h2, h3⟩ := h
  exact ⟨vn, vk, vl, rfl, h1.grown hg, h2.grown hg, h3.grown hg⟩
theorem ReadIs.agg {w : World} {v : Value} {r : Rd} (h : ReadIs w v r) : ∃ na nc ka kc la lc, v = .agg #[.slice na r.name.length nc, .slice ka r.key.length kc, .bool r.wide, .slice la r.last.length lc] := by
  obtain ⟨vn, vk, vl, rfl, h1, h2, h3⟩ := h
  obtain ⟨na, nc, rfl⟩ := h1.shape
  obtain ⟨ka, kc, rfl⟩ := h2.shape
  obtain ⟨la, lc, rfl⟩ := h3.shape
  exact ⟨na, nc, ka, kc, la, lc, rfl⟩
theorem ReadIs.parts {w : World} {r : Rd} {x y g z : Value} (h : ReadIs w (.agg #[x, y, g, z]) r) : SliceIs w x r.name ∧ SliceIs w y r.key ∧ g = .bool r.wide ∧ SliceIs w z r.last := by
  obtain ⟨vn, vk, vl, e, h1, h2, h3⟩ := h
  simp only [Value.agg.injEq, Array.mk.injEq, List.cons.injEq, and_true] at e
  obtain ⟨rfl, rfl, rfl, rfl⟩ := e
  exact ⟨h1, h2, rfl, h3⟩
/-- What came in fits into memory. -/
structure RdFits (r : Rd) : Prop where
  name : r.name.length ≤ 140737488355328
  key : r.key.length ≤ 140737488355328
  last : r.last.length ≤ 140737488355328
end Go.Proofs.YtghjikifflpeiabDoor
