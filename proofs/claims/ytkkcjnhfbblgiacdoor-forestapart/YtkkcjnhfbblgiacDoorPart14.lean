/-
  Texts of this proof, joined: PCProve, FCProve, PCCheck, FCVerify, LPF.
-/
import Derived.Test.YtkkcjnhfbblgiacDoorStepMem
import Derived.Test.YtkkcjnhfbblgiacDoorPart2
import Derived.Test.YtkkcjnhfbblgiacDoorTenMem
/-
  What proof.Prove and proof.Verify must keep.
-/
namespace Go.Proofs.YtkkcjnhfbblgiacDoor
open Go.RowKit
/-- proof.Prove keeps P4.1. -/
def PProveOK : Prop := ∀ (w : World) (v u : Value) (l : PL) (k : List UInt8), PairsIs w v l → SliceIs w u k → Fits l → Tabs w → Calls Tryd.prog 23 #[v, u] w fun e w' => ∃ x, e = .returned (.tuple #[x, .int .i64 (getE l k)]) ∧ ProofNew w.heap.size w' x (proveF l k) ∧ w.grownBy w' none
/-- proof.Verify keeps P4.3. -/
def PVerifyOK : Prop := ∀ (w : World) (r u v : Value) (root k : List UInt8) (p : Prf), SliceIs w r root → SliceIs w u k → ProofIs w v p → PrfFits p → Tabs w → Calls Tryd.prog 25 #[r, u, v] w fun e w' => ∃ x, e = .returned (.tuple #[.agg #[.bool (verB root k p), x], .int .i64 (verE root k p)]) ∧ SliceIs w' x (verV root k p) ∧ w.grownBy w' none
theorem ver_size {root k : List UInt8} {p : Prf} (h : root.length ≠ 32) : verE root k p = 1 ∧ verB root k p = false ∧ verV root k p = [] := by
  have h1 : verE root k p = 1 := by rw [verE, if_neg h]
  have h2 : verB root k p = false := by rw [verB, h1]; rfl
  exact ⟨h1, h2, by rw [verV, h2, if_neg (by simp)]⟩
theorem ver_form {root k : List UInt8} {p : Prf} (h : root.length = 32) (hp : proofE k p ≠ 0) : verE root k p = proofE k p ∧ verB root k p = false ∧ verV root k p = [] := by
  have h1 : verE root k p = proofE k p := by rw [verE, if_pos h, if_neg hp]
  have h2 : verB root k p = false := by rw [verB, h1]; simp [hp]
  exact ⟨h1, h2, by rw [verV, h2, if_neg (by simp)]⟩
theorem ver_proof {root k : List UInt8} {p : Prf} (h : root.length = 32) (hp : proofE k p = 0) (hr : rootP p ≠ root) : verE root k p = 8 ∧ verB root k p = false ∧ verV root k p = [] := by
  have h1 : verE root k p = 8 := by rw [verE, if_pos h, if_pos hp, if_neg hr]
  have h2 : verB root k p = false := by rw [verB, h1]; rfl
  exact ⟨h1, h2, by rw [verV, h2, if_neg (by simp)]⟩
theorem ver_ok {root k : List UInt8} {p : Prf} (h : root.length = 32) (hp : proofE k p = 0) (hr : rootP p = root) : verE root k p = 0 ∧ verB root k p = foundF k p ∧ verV root k p = if foundF k p = true then p.pair.2 else [] := by
  have h1 : verE root k p = 0 := by rw [verE, if_pos h, if_pos hp, if_pos hr]
  have h2 : verB root k p = foundF k p := by rw [verB, h1]; rfl
  exact ⟨h1, h2, by rw [verV, h2]⟩
end Go.Proofs.YtkkcjnhfbblgiacDoor

/-
  What forest.Prove must keep.
-/
namespace Go.Proofs.YtkkcjnhfbblgiacDoor
/-- forest.Prove keeps P5.6. -/
def FProveOK : Prop := ∀ (w : World) (v r u : Value) (l : FL) (n k : List UInt8), TensIs w v l → SliceIs w r n → SliceIs w u k → FitsT l → n.length ≤ 140737488355328 → k.length ≤ 140737488355328 → Tabs w → Calls Tryd.prog 9 #[v, r, u] w fun e w' => ∃ x y, e = .returned (.tuple #[x, y, .int .i64 (fproveE l n k)]) ∧ ProofIs w' x (fouterF l n k) ∧ ProofIs w' y (finnerF l n k) ∧ w.grownBy w' none
end Go.Proofs.YtkkcjnhfbblgiacDoor

/-
  What proof.Check must keep.
-/
namespace Go.Proofs.YtkkcjnhfbblgiacDoor
open Go.RowKit
/-- proof.Check keeps P4.2. -/
def PCheckOK : Prop := ∀ (w : World) (u v : Value) (k : List UInt8) (p : Prf), SliceIs w u k → ProofIs w v p → PrfFits p → Calls Tryd.prog 38 #[u, v] w fun e w' => e = .returned (.int .i64 (proofE k p)) ∧ w.grownBy w' none
end Go.Proofs.YtkkcjnhfbblgiacDoor

/-
  What forest.Verify must keep.
-/
namespace Go.Proofs.YtkkcjnhfbblgiacDoor
/-- forest.Verify keeps P5.7. -/
def FVerifyOK : Prop := ∀ (w : World) (r m u o i : Value) (root n k : List UInt8) (p q : Prf), SliceIs w r root → SliceIs w m n → SliceIs w u k → ProofIs w o p → ProofIs w i q → PrfFits p → PrfFits q → Tabs w → Calls Tryd.prog 10 #[r, m, u, o, i] w fun e w' => ∃ x, e = .returned (.tuple #[.agg #[.bool (fverB root n k p q), x], .int .i64 (fverE root n k p q)]) ∧ SliceIs w' x (fverV root n k p q) ∧ w.grownBy w' none
end Go.Proofs.YtkkcjnhfbblgiacDoor

/-
  What Prove hands back fits into memory.
-/
namespace Go.Proofs.YtkkcjnhfbblgiacDoor
open Go.RowKit
theorem prove_fits {l : PL} (hT : Tree l) (k : List UInt8) : PrfFits (proveL l k) := by
  unfold proveL
  by_cases h : l.length = 0
  · rw [if_pos h]; exact ⟨by simp, fun i hi => by simp at hi, by simp, by simp⟩
  · rw [if_neg h]
    have h60 := hT.room
    have hl := steps_len k hT (by omega)
    have hp := hT.pairs _ (end_mem k hT (by omega))
    refine ⟨by simp; omega, fun i hi => ?_, by simp; omega, by simp; omega⟩
    obtain ⟨g1, g2, _⟩ := steps_may k hT (by omega) i hi
    show (-9223372036854775808 ≤ ((stepsL l k).getD i noStp).bit ∧ ((stepsL l k).getD i noStp).bit ≤ 9223372036854775807) ∧ ((stepsL l k).getD i noStp).other.length ≤ 140737488355328
    omega
end Go.Proofs.YtkkcjnhfbblgiacDoor
