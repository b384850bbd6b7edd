/-
  Texts of this proof, joined: FCCheck, FCApply, FCGet, FCRange.
-/
import Derived.Test.YtkkcjnhfbblgiacTenMem
import Derived.Test.YtkkcjnhfbblgiacWrMem
import Derived.Test.YtkkcjnhfbblgiacPart1
/-
  What forest.Check must keep.
-/
namespace Go.Proofs.Ytkkcjnhfbblgiac
/-- forest.Check keeps P5.2. -/
def FCheckOK : Prop := ∀ (w : World) (v : Value) (l : FL), TensIs w v l → FitsT l → Calls Try.prog 14 #[v] w fun e w' => e = .returned (.int .i64 (forestE l)) ∧ w.grownBy w' none
end Go.Proofs.Ytkkcjnhfbblgiac

/-
  What forest.Apply must keep.
-/
namespace Go.Proofs.Ytkkcjnhfbblgiac
/-- forest.Apply keeps P5.4. -/
def FApplyOK : Prop := ∀ (w : World) (v u : Value) (l : FL) (ws : List Plc), TensIs w v l → WritesIs w u ws → FitsT l → FitsW ws → Calls Try.prog 13 #[v, u] w fun e w' => ∃ x, e = .returned (.tuple #[x, .int .i64 (appliedE l ws)]) ∧ TensIs w' x (appliedF l ws) ∧ w.grownBy w' none
end Go.Proofs.Ytkkcjnhfbblgiac

/-
  What forest.Get must keep.
-/
namespace Go.Proofs.Ytkkcjnhfbblgiac
/-- forest.Get keeps P5.3. -/
def FGetOK : Prop := ∀ (w : World) (v r u : Value) (l : FL) (n k : List UInt8), TensIs w v l → SliceIs w r n → SliceIs w u k → FitsT l → n.length ≤ 140737488355328 → k.length ≤ 140737488355328 → Calls Try.prog 10 #[v, r, u] w fun e w' => ∃ x, e = .returned (.tuple #[.agg #[.bool (fgetB l n k), x], .int .i64 (fgetE l n k)]) ∧ SliceIs w' x (fgetV l n k) ∧ w.grownBy w' none
end Go.Proofs.Ytkkcjnhfbblgiac

/-
  What forest.Range must keep.
-/
namespace Go.Proofs.Ytkkcjnhfbblgiac
/-- forest.Range keeps P5.3. -/
def FRangeOK : Prop := ∀ (w : World) (v r u t : Value) (l : FL) (n k m : List UInt8), TensIs w v l → SliceIs w r n → SliceIs w u k → SliceIs w t m → FitsT l → n.length ≤ 140737488355328 → k.length ≤ 140737488355328 → m.length ≤ 140737488355328 → Calls Try.prog 9 #[v, r, u, t] w fun e w' => ∃ x, e = .returned (.tuple #[x, .int .i64 (frangeE l n k m)]) ∧ PairsIs w' x (frangeF l n k m) ∧ w.grownBy w' none
end Go.Proofs.Ytkkcjnhfbblgiac
