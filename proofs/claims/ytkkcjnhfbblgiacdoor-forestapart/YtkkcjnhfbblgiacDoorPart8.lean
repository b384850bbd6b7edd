/-
  Texts of this proof, joined: FCCheck, FCApply, FCGet, FCRoot.
-/
import Derived.Test.YtkkcjnhfbblgiacDoorTenMem
import Derived.Test.YtkkcjnhfbblgiacDoorWrMem
import Derived.Test.YtkkcjnhfbblgiacDoorPart2
import Derived.Test.YtkkcjnhfbblgiacDoorPart3
/-
  What forest.Check must keep.
-/
namespace Go.Proofs.YtkkcjnhfbblgiacDoor
/-- forest.Check keeps P5.2. -/
def FCheckOK : Prop := ∀ (w : World) (v : Value) (l : FL), TensIs w v l → FitsT l → Calls Tryd.prog 20 #[v] w fun e w' => e = .returned (.int .i64 (forestE l)) ∧ w.grownBy w' none
end Go.Proofs.YtkkcjnhfbblgiacDoor

/-
  What forest.Apply must keep.
-/
namespace Go.Proofs.YtkkcjnhfbblgiacDoor
/-- forest.Apply keeps P5.4. -/
def FApplyOK : Prop := ∀ (w : World) (v u : Value) (l : FL) (ws : List Plc), TensIs w v l → WritesIs w u ws → FitsT l → FitsW ws → Calls Tryd.prog 13 #[v, u] w fun e w' => ∃ x, e = .returned (.tuple #[x, .int .i64 (appliedE l ws)]) ∧ TensIs w' x (appliedF l ws) ∧ w.grownBy w' none
end Go.Proofs.YtkkcjnhfbblgiacDoor

/-
  What forest.Get must keep.
-/
namespace Go.Proofs.YtkkcjnhfbblgiacDoor
/-- forest.Get keeps P5.3. -/
def FGetOK : Prop := ∀ (w : World) (v r u : Value) (l : FL) (n k : List UInt8), TensIs w v l → SliceIs w r n → SliceIs w u k → FitsT l → n.length ≤ 140737488355328 → k.length ≤ 140737488355328 → Calls Tryd.prog 11 #[v, r, u] w fun e w' => ∃ x, e = .returned (.tuple #[.agg #[.bool (fgetB l n k), x], .int .i64 (fgetE l n k)]) ∧ SliceIs w' x (fgetV l n k) ∧ w.grownBy w' none
end Go.Proofs.YtkkcjnhfbblgiacDoor

/-
  What forest.Root must keep.
-/
namespace Go.Proofs.YtkkcjnhfbblgiacDoor
/-- forest.Root keeps P5.5. -/
def FRootOK : Prop := ∀ (w : World) (v : Value) (l : FL), TensIs w v l → FitsT l → Tabs w → Calls Tryd.prog 8 #[v] w fun e w' => ∃ x, e = .returned (.tuple #[x, .int .i64 (forestE l)]) ∧ SliceIs w' x (frootF l) ∧ w.grownBy w' none
end Go.Proofs.YtkkcjnhfbblgiacDoor
