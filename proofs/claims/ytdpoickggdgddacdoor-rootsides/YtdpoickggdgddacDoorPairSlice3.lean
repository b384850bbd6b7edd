/-
  A beginning of a list of pairs, with no room behind it: l[:n:n].
-/
import Derived.Test.YtdpoickggdgddacDoorPairSlice
namespace Go.Proofs.YtdpoickggdgddacDoor
open Go.RowKit
theorem pslice_hm (a : Option Addr) (cap : Nat) (l : PL) (n : Nat) (hn : n ≤ l.length) (hc : l.length ≤ cap) : ∃ a1, (∀ W, (Instr.slice 31 (.slice a l.length cap) none (some (.int .i64 (n : Int))) (some (.int .i64 (n : Int)))).run Tryd.prog W = .ok (.slice a1 n n) W) ∧ ∀ W, PairsIs W (.slice a l.length cap) l → PairsIs W (.slice a1 n n) (l.take n) := by
  refine ⟨if n = 0 then a else a.map (·.add (0 * 2)), fun W => ?_, fun W h => ?_⟩
  · rw [run_slice_any _ _ _ _ _ (by kernel_rfl)]
    simp only [Instr.sliceBounds, Sem.run_bind, Sem.run_pure, Result.andThen]
    have hb : ∀ (y : Nat) (code : BoundsCode), n ≤ y → (Instr.sliceBound (.int .i64 (n : Int)) y code).run Tryd.prog W = .ok n W := fun y code hy => by
      rw [run_sliceBound _ _ _ _ _ (by omega) (by omega)]; simp
    simp [hb, sizePair, Go.sliced, show n ≤ cap by omega]
  · obtain ⟨a', cap', e, hc', h⟩ := h
    simp only [Value.slice.injEq, true_and] at e
    obtain ⟨rfl, rfl⟩ := e
    have hlen : (l.take n).length = n := by simp; omega
    refine ⟨_, n, by rw [hlen], by rw [hlen]; exact Nat.le_refl _, ?_⟩
    by_cases h0 : n = 0
    · left
      exact ⟨by rw [h0]; simp, fun _ => h0⟩
    · rw [if_neg h0]
      rcases h with ⟨rfl, _⟩ | ⟨b, o, rfl, h⟩
      · simp at hn; omega
      · right
        refine ⟨b, o, by simp [addr_add], fun k hk => ?_⟩
        rw [hlen] at hk
        have := h k (by omega)
        have e : (l.take n).getD k ([], []) = l.getD k ([], []) := by simp [hk]
        rw [e]; exact this
end Go.Proofs.YtdpoickggdgddacDoor
