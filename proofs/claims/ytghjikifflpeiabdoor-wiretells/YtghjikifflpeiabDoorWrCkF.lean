/-
  wire.Check as its code goes, with no program.
-/
import Derived.Test.YtghjikifflpeiabDoorRqBox
namespace Go.Proofs.YtghjikifflpeiabDoor
open Go.RowKit
/-- A part that a kind does not have, with bytes, among the first so many. -/
def badTo (K : Int) (n q l v : Nat) : Nat → Bool
  | 0 => false
  | 1 => !hasP K 0 && decide (0 < n)
  | 2 => (!hasP K 0 && decide (0 < n)) || (!hasP K 1 && decide (0 < q))
  | 3 => ((!hasP K 0 && decide (0 < n)) || (!hasP K 1 && decide (0 < q))) || (!hasP K 2 && decide (0 < l))
  | _ => (((!hasP K 0 && decide (0 < n)) || (!hasP K 1 && decide (0 < q))) || (!hasP K 2 && decide (0 < l))) || (!hasP K 3 && decide (0 < v))
def ckE (K : Int) (n q l v : Nat) : Int :=
  if (decide (nameFaultF n ≠ 0) && hasP K 0) = true then nameFaultF n
  else if (decide (keyFaultF q ≠ 0) && hasP K 1) = true then keyFaultF q
  else if (decide (keyFaultF l ≠ 0) && hasP K 2) = true then keyFaultF l
  else if 32 < v then 1 else if badTo K n q l v 4 = true then 4 else 0
theorem ck_req (r : Rq) (hk : 1 ≤ r.kind ∧ r.kind ≤ 8) : reqE r = ckE r.kind r.name.length r.key.length r.last.length r.value.length := by
  rw [reqE, if_pos hk]
  have hf : rqForm r = if badTo r.kind r.name.length r.key.length r.last.length r.value.length 4 = true then 4 else 0 := by
    unfold rqForm
    by_cases h1 : namedK r.kind = false ∧ 0 < r.name.length + r.key.length
    · rw [if_pos h1, if_pos]
      by_cases h2 : 0 < r.name.length
      · simp [badTo, hasP, h1.1, h2]
      · have h3 : 0 < r.key.length := by omega
        simp [badTo, hasP, h1.1, h3]
    · rw [if_neg h1]
      by_cases h2 : (r.kind ≠ 3 ∧ 0 < r.last.length) ∨ (r.kind ≠ 4 ∧ 0 < r.value.length)
      · rw [if_pos h2, if_pos]
        rcases h2 with ⟨h2, h3⟩ | ⟨h2, h3⟩
        · simp [badTo, hasP, h2, h3]
        · simp [badTo, hasP, h2, h3]
      · rw [if_neg h2, if_neg]
        intro hb
        simp only [badTo, hasP, Bool.or_eq_true, Bool.and_eq_true, Bool.not_eq_true', decide_eq_true_iff, decide_eq_false_iff_not] at hb
        rcases hb with ((hb | hb) | hb) | hb
        · exact h1 ⟨hb.1, by omega⟩
        · exact h1 ⟨hb.1, by omega⟩
        · exact h2 (.inl hb)
        · exact h2 (.inr hb)
  rw [hf]
  unfold rqParts ckE
  generalize badTo r.kind r.name.length r.key.length r.last.length r.value.length 4 = B
  show _ = if (decide (nameFaultF r.name.length ≠ 0) && namedK r.kind) = true then _ else if (decide (keyFaultF r.key.length ≠ 0) && namedK r.kind) = true then _ else if (decide (keyFaultF r.last.length ≠ 0) && decide (r.kind = 3)) = true then _ else _
  have h3 : r.kind = 3 → namedK r.kind = true := fun h => by rw [h]; decide
  generalize nameFaultF r.name.length = A at *
  generalize keyFaultF r.key.length = C at *
  generalize keyFaultF r.last.length = D at *
  cases hN : namedK r.kind with
  | false =>
    have h3' : ¬ r.kind = 3 := fun h => by rw [h3 h] at hN; cases hN
    simp [h3']
  | true =>
    by_cases hA : A = 0
    · by_cases hC : C = 0
      · by_cases h4 : r.kind = 3
        · by_cases hD : D = 0
          · simp [hA, hC, h4, hD]
          · simp [hA, hC, h4, hD]
        · simp [hA, hC, h4]
      · simp [hA, hC]
    · simp [hA]
theorem ck_bad (r : Rq) (hk : ¬ (1 ≤ r.kind ∧ r.kind ≤ 8)) : reqE r = 5 := by rw [reqE, if_neg hk]
end Go.Proofs.YtghjikifflpeiabDoor
