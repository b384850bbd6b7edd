/-
  Texts of this proof, joined: PCProve, PCCheck.
-/
import Derived.Test.YtedmhejnbapklaaDoorStepMem
import Derived.Test.YtedmhejnbapklaaDoorPart2
/-
  What proof.Prove and proof.Verify must keep.
-/
namespace Go.Proofs.YtedmhejnbapklaaDoor
open Go.RowKit
/-- proof.Prove keeps P4.1. -/
def PProveOK : Prop := ∀ (w : World) (v u : Value) (l : PL) (k : List UInt8), PairsIs w v l → SliceIs w u k → Fits l → Tabs w → Calls Tryd.prog 9 #[v, u] w fun e w' => ∃ x, e = .returned (.tuple #[x, .int .i64 (getE l k)]) ∧ ProofNew w.heap.size w' x (proveF l k) ∧ w.grownBy w' none
/-- proof.Verify keeps P4.3. -/
def PVerifyOK : Prop := ∀ (w : World) (r u v : Value) (root k : List UInt8) (p : Prf), SliceIs w r root → SliceIs w u k → ProofIs w v p → PrfFits p → Tabs w → Calls Tryd.prog 15 #[r, u, v] w fun e w' => ∃ x, e = .returned (.tuple #[.agg #[.bool (verB root k p), x], .int .i64 (verE root k p)]) ∧ SliceIs w' x (verV root k p) ∧ w.grownBy w' none
theorem ver_size {root k : List UInt8} {p : Prf} (h : root.length ≠ 32) : verE root k p = 1 ∧ verB root k p = false ∧ verV root k p = [] := by
  have h1 : verE root k p = 1 := by rw [verE, if_neg h]
  have h2 : verB root k p = false := by rw [verB, h1]; rfl
  exact ⟨h1, h2, by rw [verV, h2, if_neg (by simp)]⟩
theorem ver_form {root k : List UInt8} {p : Prf} (h : root.length = 32) (hp : proofE k p ≠ 0) : verE root k p = proofE k p ∧ verB root k p = false ∧ verV root k p = [] := by
  have h1 : verE root k p = proofE k p := by rw [verE, if_pos h, if_neg hp]
  have h2 : verB root k p = false := by rw [verB, h1]; simp [hp]
  exact ⟨h1, h2, by rw [verV, h2, if_neg (by simp)]⟩
theorem ver_proof {root k : List UInt8} {p : Prf} (h : root.length = 32) (hp : proofE k p = 0) (hr : rootP p ≠ root) : verE root k p = 8 ∧ verB root k p = false ∧ verV root k p = [] := by
  have h1 : verE root k p = 8 := by rw [verE, if_pos h, if_pos hp, if_neg hr]
  have h2 : verB root k p = false := by rw [verB, h1]; rfl
  exact ⟨h1, h2, by rw [verV, h2, if_neg (by simp)]⟩
theorem ver_ok {root k : List UInt8} {p : Prf} (h : root.length = 32) (hp : proofE k p = 0) (hr : rootP p = root) : verE root k p = 0 ∧ verB root k p = foundF k p ∧ verV root k p = if foundF k p = true then p.pair.2 else [] := by
  have h1 : verE root k p = 0 := by rw [verE, if_pos h, if_pos hp, if_pos hr]
  have h2 : verB root k p = foundF k p := by rw [verB, h1]; rfl
  exact ⟨h1, h2, by rw [verV, h2]⟩
end Go.Proofs.YtedmhejnbapklaaDoor

/-
  What proof.Check must keep.
-/
namespace Go.Proofs.YtedmhejnbapklaaDoor
open Go.RowKit
/-- proof.Check keeps P4.2. -/
def PCheckOK : Prop := ∀ (w : World) (u v : Value) (k : List UInt8) (p : Prf), SliceIs w u k → ProofIs w v p → PrfFits p → Calls Tryd.prog 23 #[u, v] w fun e w' => e = .returned (.int .i64 (proofE k p)) ∧ w.grownBy w' none
end Go.Proofs.YtedmhejnbapklaaDoor
