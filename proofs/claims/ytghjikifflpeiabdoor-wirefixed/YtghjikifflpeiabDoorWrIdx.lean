/-
  An element of an array of four slices.
-/
import Derived.Test.YtghjikifflpeiabDoorRqBox
namespace Go.Proofs.YtghjikifflpeiabDoor
open Go.RowKit
theorem texts_cells : Tryd.prog.cellsOf 22 = 1 := by kernel_rfl
theorem index_texts (a1 b1 c1 d1 : Option Addr) (a2 a3 b2 b3 c2 c3 d2 d3 : Nat) (W : World) :
    (Instr.index 48 (.agg #[.slice a1 a2 a3, .slice b1 b2 b3, .slice c1 c2 c3, .slice d1 d2 d3]) (.int .i64 0)).run Tryd.prog W = .ok (.slice a1 a2 a3) W ∧
    (Instr.index 48 (.agg #[.slice a1 a2 a3, .slice b1 b2 b3, .slice c1 c2 c3, .slice d1 d2 d3]) (.int .i64 1)).run Tryd.prog W = .ok (.slice b1 b2 b3) W ∧
    (Instr.index 48 (.agg #[.slice a1 a2 a3, .slice b1 b2 b3, .slice c1 c2 c3, .slice d1 d2 d3]) (.int .i64 2)).run Tryd.prog W = .ok (.slice c1 c2 c3) W ∧
    (Instr.index 48 (.agg #[.slice a1 a2 a3, .slice b1 b2 b3, .slice c1 c2 c3, .slice d1 d2 d3]) (.int .i64 3)).run Tryd.prog W = .ok (.slice d1 d2 d3) W := by
  refine ⟨?_, ?_, ?_, ?_⟩
  all_goals first | kernel_rfl | simp [Instr.index, run_underlying Tryd.underlying48, asIntOf, texts_cells, go_sem]
end Go.Proofs.YtghjikifflpeiabDoor
