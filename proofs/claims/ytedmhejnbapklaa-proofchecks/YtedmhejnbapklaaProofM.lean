/-
  Proofs, as the document has them: steps and a pair, and which may be one for a key. No program is named.
-/
import Derived.Test.YtedmhejnbapklaaTreeF
namespace Go.Proofs.Ytedmhejnbapklaa
structure Stp where
  bit : Int
  right : Bool
  other : List UInt8
structure Prf where
  empty : Bool
  steps : List Stp
  pair : Pr
def noStp : Stp := ⟨0, false, []⟩
def noPrf : Prf := ⟨false, [], ([], [])⟩
instance : Inhabited Stp := ⟨noStp⟩
instance : Inhabited Prf := ⟨noPrf⟩
/-- A step that may stand at a place. -/
def StepMay (k q : List UInt8) (l : List Stp) (i : Nat) : Prop :=
  (0 ≤ (l.getD i noStp).bit ∧ (l.getD i noStp).bit ≤ 144) ∧ (l.getD i noStp).other.length = 32 ∧ (0 < i → (l.getD (i - 1) noStp).bit < (l.getD i noStp).bit) ∧
    kbit k (l.getD i noStp).bit.toNat = (l.getD i noStp).right ∧ kbit q (l.getD i noStp).bit.toNat = (l.getD i noStp).right
instance (k q : List UInt8) (l : List Stp) (i : Nat) : Decidable (StepMay k q l i) := by unfold StepMay; infer_instance
/-- A proof that may be one for a key. -/
def May (k : List UInt8) (p : Prf) : Prop :=
  (p.empty = true ∧ p.steps = [] ∧ p.pair.1 = [] ∧ p.pair.2 = []) ∨ (p.empty = false ∧ pairFaultF p.pair = 0 ∧ ∀ i, i < p.steps.length → StepMay k p.pair.1 p.steps i)
open Classical in
/-- What is wrong with a proof for a key. -/
noncomputable def proofE (k : List UInt8) (p : Prf) : Int := if keyFaultF k.length = 0 then (if May k p then 0 else 4) else keyFaultF k.length
theorem proofE_key {k : List UInt8} {p : Prf} (h : keyFaultF k.length ≠ 0) : proofE k p = keyFaultF k.length := by rw [proofE, if_neg h]
theorem proofE_may {k : List UInt8} {p : Prf} (h : keyFaultF k.length = 0) (hm : May k p) : proofE k p = 0 := by rw [proofE, if_pos h, if_pos hm]
theorem proofE_not {k : List UInt8} {p : Prf} (h : keyFaultF k.length = 0) (hm : ¬May k p) : proofE k p = 4 := by rw [proofE, if_pos h, if_neg hm]
theorem proofE_ok {k : List UInt8} {p : Prf} (h : proofE k p = 0) : keyFaultF k.length = 0 ∧ May k p := by
  by_cases hk : keyFaultF k.length = 0
  · by_cases hm : May k p
    · exact ⟨hk, hm⟩
    · rw [proofE_not hk hm] at h; cases h
  · rw [proofE_key hk] at h; exact absurd h hk
end Go.Proofs.Ytedmhejnbapklaa
