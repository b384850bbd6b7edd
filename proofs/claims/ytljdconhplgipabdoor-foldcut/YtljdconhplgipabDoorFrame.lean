/-
  What every row's proof opens with: the tables, a slice of bytes that came in, a world for the witness.
-/
import Derived.Test.YtljdconhplgipabDoorCards
import Derived.Test.YtljdconhplgipabDoorTie
import Derived.Test.YtljdconhplgipabDoorPart1
import Derived.ProofKit
import Derived.OpenShut
import Derived.ShutString
import Derived.ChangeOld
import Derived.Deep.DeepHandedRow
import Derived.Lib.LaidTab
import Derived.SizedLaws
import Derived.Test.YtljdconhplgipabDoorFrameB
namespace Go.Proofs.YtljdconhplgipabDoor
open Go.ChangeShapes Go.WideShapes Go.ChangeAt Go.RowKit
def numsZ : List Int := [1, 32898, 9223372036854808714, 9223372039002292224, 32907, 2147483649, 9223372039002292353, 9223372036854808585, 138, 136, 2147516425, 2147483658, 2147516555, 9223372036854775947, 9223372036854808713, 9223372036854808579, 9223372036854808578, 9223372036854775936, 32778, 9223372039002259466, 9223372039002292353, 9223372036854808704, 2147483649, 9223372039002292232]
def walkZ : List Int := [10, 7, 11, 17, 18, 3, 5, 16, 8, 21, 24, 4, 15, 23, 19, 13, 12, 2, 20, 14, 22, 9, 6, 1]
def turnsZ : List Int := [1, 3, 6, 10, 15, 21, 28, 36, 45, 55, 2, 14, 27, 41, 56, 8, 25, 43, 62, 18, 39, 61, 20, 44]
def laidL : List (String × DataW Unit) := [("canopy/digest.roundNumbers", Lib.tabData .u64 numsZ), ("canopy/digest.laneWalk", Lib.tabData .i64 walkZ), ("canopy/digest.laneTurns", Lib.tabData .i64 turnsZ)]
theorem g0 : Tryd.prog.globalNamed "canopy/digest.roundNumbers" = some 1 := by kernel_rfl
theorem g1 : Tryd.prog.globalNamed "canopy/digest.laneWalk" = some 2 := by kernel_rfl
theorem g2 : Tryd.prog.globalNamed "canopy/digest.laneTurns" = some 3 := by kernel_rfl
theorem gt0 : (Tryd.prog.globals[1]?).map (·.type) = some 149 := by kernel_rfl
theorem gt1 : (Tryd.prog.globals[2]?).map (·.type) = some 155 := by kernel_rfl
theorem gt2 : (Tryd.prog.globals[3]?).map (·.type) = some 155 := by kernel_rfl
theorem cells49 : Tryd.prog.cellsOf 149 = 24 := by kernel_rfl
theorem cells58 : Tryd.prog.cellsOf 155 = 24 := by kernel_rfl
theorem cells41 : Tryd.prog.cellsOf 127 = 1 := by kernel_rfl
theorem cells3 : Tryd.prog.cellsOf 3 = 1 := by kernel_rfl
theorem nums_eq (i : Nat) (h : i < 24) : numsZ.getD i 0 = U (roundNumbersT.getD i 0) := (by decide +kernel : ∀ i : Fin 24, numsZ.getD i.1 0 = U (roundNumbersT.getD i.1 0)) ⟨i, h⟩
theorem walk_eq (i : Nat) (h : i < 24) : walkZ.getD i 0 = ((laneWalkT.getD i 0 : Nat) : Int) := (by decide +kernel : ∀ i : Fin 24, walkZ.getD i.1 0 = ((laneWalkT.getD i.1 0 : Nat) : Int)) ⟨i, h⟩
theorem turns_eq (i : Nat) (h : i < 24) : turnsZ.getD i 0 = ((laneTurnsT.getD i 0 : Nat) : Int) := (by decide +kernel : ∀ i : Fin 24, turnsZ.getD i.1 0 = ((laneTurnsT.getD i.1 0 : Nat) : Int)) ⟨i, h⟩
/-- What the rows' list gives: the three tables. -/
theorem tabs_of {W : World} (h : laidMet Tryd.prog laidL W) : Tabs W := by
  obtain ⟨ps, ⟨a1, b1, cs1, f1, p1, q1, hg1, ht1, hv1, hd1, ⟨a2, b2, cs2, f2, p2, q2, hg2, ht2, hv2, hd2, ⟨a3, b3, cs3, f3, p3, q3, hg3, ht3, hv3, hd3, _, _⟩, _⟩, _⟩, _⟩ := h
  obtain rfl := Option.some.inj (g0.symm.trans hg1)
  obtain rfl := Option.some.inj (g1.symm.trans hg2)
  obtain rfl := Option.some.inj (g2.symm.trans hg3)
  obtain rfl := Option.some.inj (gt0.symm.trans ht1)
  obtain rfl := Option.some.inj (gt1.symm.trans ht2)
  obtain rfl := Option.some.inj (gt2.symm.trans ht3)
  have t0 : Lib.TabIs Tryd.prog W "canopy/digest.roundNumbers" .u64 numsZ := by
    unfold Lib.TabIs; rw [hv1, ← Lib.cells_of_tab Tryd.underlying149 Tryd.underlying127 cells41 cells49 hd1]
  have t1 : Lib.TabIs Tryd.prog W "canopy/digest.laneWalk" .i64 walkZ := by
    unfold Lib.TabIs; rw [hv2, ← Lib.cells_of_tab Tryd.underlying155 Tryd.underlying3 cells3 cells58 hd2]
  have t2 : Lib.TabIs Tryd.prog W "canopy/digest.laneTurns" .i64 turnsZ := by
    unfold Lib.TabIs; rw [hv3, ← Lib.cells_of_tab Tryd.underlying155 Tryd.underlying3 cells3 cells58 hd3]
  refine ⟨fun i hi => ?_, fun i hi => ?_, fun i hi => ?_⟩
  · rw [t0.cell g0 i hi, nums_eq i hi]
  · rw [t1.cell g1 i hi, walk_eq i hi]
  · rw [t2.cell g2 i hi, turns_eq i hi]
def layTab (cs : Array Value) : Obj → Obj
  | .cells _ t frozen => .cells cs t frozen
  | o => o
/-- A world for the witness: the tables as their initialisers lay them. -/
def laidWorld (W : World) : World :=
  { W with heap := ((W.heap.modify 1 (layTab (numsZ.map fun z => Value.int .u64 z).toArray)).modify 2 (layTab (walkZ.map fun z => Value.int .i64 z).toArray)).modify 3 (layTab (turnsZ.map fun z => Value.int .i64 z).toArray) }
end Go.Proofs.YtljdconhplgipabDoor
