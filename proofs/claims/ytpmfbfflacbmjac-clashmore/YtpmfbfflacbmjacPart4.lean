/-
  Texts of this proof, joined: FCCheck, FCApply.
-/
import Derived.Test.YtpmfbfflacbmjacTenMem
import Derived.Test.YtpmfbfflacbmjacWrMem
/-
  What forest.Check must keep.
-/
namespace Go.Proofs.Ytpmfbfflacbmjac
/-- forest.Check keeps P5.2. -/
def FCheckOK : Prop := ∀ (w : World) (v : Value) (l : FL), TensIs w v l → FitsT l → Calls Try.prog 45 #[v] w fun e w' => e = .returned (.int .i64 (forestE l)) ∧ w.grownBy w' none
end Go.Proofs.Ytpmfbfflacbmjac

/-
  What forest.Apply must keep.
-/
namespace Go.Proofs.Ytpmfbfflacbmjac
/-- forest.Apply keeps P5.4. -/
def FApplyOK : Prop := ∀ (w : World) (v u : Value) (l : FL) (ws : List Plc), TensIs w v l → WritesIs w u ws → FitsT l → FitsW ws → Calls Try.prog 21 #[v, u] w fun e w' => ∃ x, e = .returned (.tuple #[x, .int .i64 (appliedE l ws)]) ∧ TensIs w' x (appliedF l ws) ∧ w.grownBy w' none
theorem OwnT.down {base : Nat} {w : World} {v : Value} {l : FL} (h : OwnT base w v l) (b2 : Nat) (hb : b2 ≤ base) : OwnT b2 w v l := by
  obtain ⟨vs, h1, h2, h3⟩ := h
  refine ⟨vs, h1, ⟨h2.1, ?_⟩, h3⟩
  rcases h2.2 with h | ⟨g, cap, cur, e, hb2, rest⟩
  · exact .inl h
  · exact .inr ⟨g, cap, cur, e, Nat.le_trans hb hb2, rest⟩
/-- forest.Apply keeps P5.4, and what it hands back is new. -/
def FApplyNewOK : Prop := ∀ (w : World) (v u : Value) (l : FL) (ws : List Plc), TensIs w v l → WritesIs w u ws → FitsT l → FitsW ws → Calls Try.prog 21 #[v, u] w fun e w' => ∃ x, e = .returned (.tuple #[x, .int .i64 (appliedE l ws)]) ∧ OwnT w.heap.size w' x (appliedF l ws) ∧ w.grownBy w' none
theorem FApplyNewOK.ok (h : FApplyNewOK) : FApplyOK := fun w v u l ws h1 h2 h3 h4 => (h w v u l ws h1 h2 h3 h4).mono (by
  rintro e w' ⟨x, rfl, hx, hg⟩
  exact ⟨x, rfl, hx.list, hg⟩)
end Go.Proofs.Ytpmfbfflacbmjac
