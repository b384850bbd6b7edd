/-
  Texts of this proof, joined: FCCheck, FCApply, FCRoot.
-/
import Derived.Test.YtkkcjnhfbblgiabDoorTenMem
import Derived.Test.YtkkcjnhfbblgiabDoorWrMem
import Derived.Test.YtkkcjnhfbblgiabDoorPart2
import Derived.Test.YtkkcjnhfbblgiabDoorPart3
/-
  What forest.Check must keep.
-/
namespace Go.Proofs.YtkkcjnhfbblgiabDoor
/-- forest.Check keeps P5.2. -/
def FCheckOK : Prop := ∀ (w : World) (v : Value) (l : FL), TensIs w v l → FitsT l → Calls Tryd.prog 41 #[v] w fun e w' => e = .returned (.int .i64 (forestE l)) ∧ w.grownBy w' none
end Go.Proofs.YtkkcjnhfbblgiabDoor

/-
  What forest.Apply must keep.
-/
namespace Go.Proofs.YtkkcjnhfbblgiabDoor
/-- forest.Apply keeps P5.4. -/
def FApplyOK : Prop := ∀ (w : World) (v u : Value) (l : FL) (ws : List Plc), TensIs w v l → WritesIs w u ws → FitsT l → FitsW ws → Calls Tryd.prog 18 #[v, u] w fun e w' => ∃ x, e = .returned (.tuple #[x, .int .i64 (appliedE l ws)]) ∧ TensIs w' x (appliedF l ws) ∧ w.grownBy w' none
end Go.Proofs.YtkkcjnhfbblgiabDoor

/-
  What forest.Root must keep.
-/
namespace Go.Proofs.YtkkcjnhfbblgiabDoor
/-- forest.Root keeps P5.5. -/
def FRootOK : Prop := ∀ (w : World) (v : Value) (l : FL), TensIs w v l → FitsT l → Tabs w → Calls Tryd.prog 19 #[v] w fun e w' => ∃ x, e = .returned (.tuple #[x, .int .i64 (forestE l)]) ∧ SliceIs w' x (frootF l) ∧ w.grownBy w' none
end Go.Proofs.YtkkcjnhfbblgiabDoor
