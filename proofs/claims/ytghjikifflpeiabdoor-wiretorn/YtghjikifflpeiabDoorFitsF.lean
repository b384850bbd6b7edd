/-
  Pairs that fit into memory. No program is named.
-/
import Derived.Test.YtghjikifflpeiabDoorTreeF
namespace Go.Proofs.YtghjikifflpeiabDoor
/-- What came in fits into memory. -/
structure Fits (l : PL) : Prop where
  many : l.length * 48 ≤ 140737488355328
  each : ∀ i, i < l.length → (l.getD i ([], [])).1.length ≤ 140737488355328 ∧ (l.getD i ([], [])).2.length ≤ 140737488355328
theorem Fits.len {l : PL} (h : Fits l) : l.length ≤ 140737488355328 := by have := h.many; omega
theorem Tree.fits {l : PL} (h : Tree l) : Fits l := by
  refine ⟨by have := h.room; omega, fun i hi => ?_⟩
  have := h.pairs l[i] (List.getElem_mem hi)
  rw [show l[i] = l.getD i ([], []) by simp [hi]] at this
  omega
theorem fits_nil : Fits [] := tree_nil.fits
end Go.Proofs.YtghjikifflpeiabDoor
