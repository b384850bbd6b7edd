/-
  Texts of this proof, joined: FCCheck, FCApply, TxLook, FCGet.
-/
import Derived.Test.YtpmfbfflacbmjacPart6
import Derived.Test.YtpmfbfflacbmjacWrMem
import Derived.Test.YtpmfbfflacbmjacPart2
import Derived.Test.YtpmfbfflacbmjacPart1
/-
  What forest.Check must keep.
-/
namespace Go.Proofs.Ytpmfbfflacbmjac
/-- forest.Check keeps P5.2. -/
def FCheckOK : Prop := ∀ (w : World) (v : Value) (l : FL), TensIs w v l → FitsT l → Calls Try.prog 45 #[v] w fun e w' => e = .returned (.int .i64 (forestE l)) ∧ w.grownBy w' none
end Go.Proofs.Ytpmfbfflacbmjac

/-
  What forest.Apply must keep.
-/
namespace Go.Proofs.Ytpmfbfflacbmjac
/-- forest.Apply keeps P5.4. -/
def FApplyOK : Prop := ∀ (w : World) (v u : Value) (l : FL) (ws : List Plc), TensIs w v l → WritesIs w u ws → FitsT l → FitsW ws → Calls Try.prog 21 #[v, u] w fun e w' => ∃ x, e = .returned (.tuple #[x, .int .i64 (appliedE l ws)]) ∧ TensIs w' x (appliedF l ws) ∧ w.grownBy w' none
theorem OwnT.down {base : Nat} {w : World} {v : Value} {l : FL} (h : OwnT base w v l) (b2 : Nat) (hb : b2 ≤ base) : OwnT b2 w v l := by
  obtain ⟨vs, h1, h2, h3⟩ := h
  refine ⟨vs, h1, ⟨h2.1, ?_⟩, h3⟩
  rcases h2.2 with h | ⟨g, cap, cur, e, hb2, rest⟩
  · exact .inl h
  · exact .inr ⟨g, cap, cur, e, Nat.le_trans hb hb2, rest⟩
/-- forest.Apply keeps P5.4, and what it hands back is new. -/
def FApplyNewOK : Prop := ∀ (w : World) (v u : Value) (l : FL) (ws : List Plc), TensIs w v l → WritesIs w u ws → FitsT l → FitsW ws → Calls Try.prog 21 #[v, u] w fun e w' => ∃ x, e = .returned (.tuple #[x, .int .i64 (appliedE l ws)]) ∧ OwnT w.heap.size w' x (appliedF l ws) ∧ w.grownBy w' none
theorem FApplyNewOK.ok (h : FApplyNewOK) : FApplyOK := fun w v u l ws h1 h2 h3 h4 => (h w v u l ws h1 h2 h3 h4).mono (by
  rintro e w' ⟨x, rfl, hx, hg⟩
  exact ⟨x, rfl, hx.list, hg⟩)
end Go.Proofs.Ytpmfbfflacbmjac

/-
  What txn.Look must keep.
-/
namespace Go.Proofs.Ytpmfbfflacbmjac
open Go.RowKit
def TxLookOK : Prop := ∀ (w : World) (v u a b : Value) (l : FL) (t : Tx) (n k : List UInt8), TensIs w v l → FitsT l → TxIs w u t → FitsX t → SliceIs w a n → SliceIs w b k → n.length ≤ 140737488355328 → k.length ≤ 140737488355328 → Calls Try.prog 19 #[v, u, a, b] w fun e w' => ∃ x, e = .returned (.tuple #[.agg #[.bool (lookB l t n k), x], .bool (lookO l t n k), .int .i64 (lookE l t n k)]) ∧ SliceIs w' x (lookV l t n k) ∧ w.grownBy w' none
end Go.Proofs.Ytpmfbfflacbmjac

/-
  What forest.Get must keep.
-/
namespace Go.Proofs.Ytpmfbfflacbmjac
/-- forest.Get keeps P5.3. -/
def FGetOK : Prop := ∀ (w : World) (v r u : Value) (l : FL) (n k : List UInt8), TensIs w v l → SliceIs w r n → SliceIs w u k → FitsT l → n.length ≤ 140737488355328 → k.length ≤ 140737488355328 → Calls Try.prog 13 #[v, r, u] w fun e w' => ∃ x, e = .returned (.tuple #[.agg #[.bool (fgetB l n k), x], .int .i64 (fgetE l n k)]) ∧ SliceIs w' x (fgetV l n k) ∧ w.grownBy w' none
end Go.Proofs.Ytpmfbfflacbmjac
