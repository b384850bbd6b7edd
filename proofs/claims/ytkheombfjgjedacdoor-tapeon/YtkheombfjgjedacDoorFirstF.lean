/-
  The first commit of a tape's bytes, with no program: as the code goes about it.
-/
import Derived.Test.YtkheombfjgjedacDoorPart4
import Derived.Test.YtkheombfjgjedacDoorPart16
namespace Go.Proofs.YtkheombfjgjedacDoor
open Go.RowKit
def firstF (r : List UInt8) : Cmt × Nat := match frameD fourF r with | some (c, _) => (c, sizeD r + 6) | none => (noCmt, 0)
theorem firstF_none {r : List UInt8} (h : frameD fourF r = none) : firstF r = (noCmt, 0) := by unfold firstF; rw [h]
def toldF (r : List UInt8) : List UInt8 := (r.drop 2).take (sizeD r)
theorem told_len {r : List UInt8} (h : sizeD r + 2 ≤ r.length) : (toldF r).length = sizeD r := by
  unfold toldF
  rw [List.length_take, List.length_drop]; omega
theorem size_small (r : List UInt8) : sizeD r < 65536 := by
  unfold sizeD
  have h0 := (r.getD 0 0).toNat_lt
  have h1 := (r.getD 1 0).toNat_lt
  omega
theorem first_few {r : List UInt8} (h : r.length < sizeD r + 2) : firstF r = (noCmt, 0) := by
  refine firstF_none ?_
  unfold frameD
  by_cases h6 : r.length < 6
  · rw [if_pos h6]
  · rw [if_neg h6, if_pos (.inl (by omega))]
theorem first_short {r : List UInt8} (h : r.length < 2) : firstF r = (noCmt, 0) := by
  refine firstF_none ?_
  unfold frameD
  rw [if_pos (by omega)]
theorem first_bad {r : List UInt8} (h : decE (toldF r) ≠ 0) : firstF r = (noCmt, 0) := by
  refine firstF_none ?_
  unfold frameD
  by_cases h6 : r.length < 6
  · rw [if_pos h6]
  · rw [if_neg h6]
    by_cases h2 : r.length < sizeD r + 6 ∨ 4000 < sizeD r + 2
    · rw [if_pos h2]
    · rw [if_neg h2]
      by_cases h3 : fourF (r.take (sizeD r + 2)) = (r.drop (sizeD r + 2)).take 4
      · rw [if_pos h3]; exact if_neg h
      · rw [if_neg h3]
theorem first_great {r : List UInt8} (h : ¬ sizeD r + 2 ≤ 4000) : firstF r = (noCmt, 0) := by
  refine firstF_none ?_
  unfold frameD
  by_cases h6 : r.length < 6
  · rw [if_pos h6]
  · rw [if_neg h6, if_pos (.inr (by omega))]
/-- The bytes behind their length are the first ones. -/
theorem lenB_told {r : List UInt8} (h : sizeD r + 2 ≤ r.length) : lenB (toldF r) = r.take (sizeD r + 2) := by
  have hl := told_len h
  unfold lenB
  rw [hl]
  unfold toldF
  match r, h with
  | x :: y :: r, h =>
    have hs : sizeD (x :: y :: r) = 256 * x.toNat + y.toNat := rfl
    have hx := x.toNat_lt
    have hy := y.toNat_lt
    rw [show sizeD (x :: y :: r) / 256 = x.toNat by rw [hs]; omega, show sizeD (x :: y :: r) % 256 = y.toNat by rw [hs]; omega]
    simp
  | [x], h => simp at h
  | [], h => simp at h
theorem take_split (r : List UInt8) (n m : Nat) : r.take (n + m) = r.take n ++ (r.drop n).take m := List.take_add
theorem first_like {r : List UInt8} (h : sizeD r + 2 ≤ r.length) (h4 : sizeD r + 2 ≤ 4000) (hd : decE (toldF r) = 0) : firstF r = if (wholeF (toldF r)).length ≤ r.length ∧ r.take (wholeF (toldF r)).length = wholeF (toldF r) then (decC (toldF r), sizeD r + 6) else (noCmt, 0) := by
  have hl := told_len h
  have hw : (wholeF (toldF r)).length = sizeD r + 6 := by rw [wholeF_len, hl]
  have hb := lenB_told h
  rw [hw]
  by_cases h6 : r.length < sizeD r + 6
  · rw [if_neg (by omega)]
    refine firstF_none ?_
    unfold frameD
    by_cases h66 : r.length < 6
    · rw [if_pos h66]
    · rw [if_neg h66, if_pos (.inl h6)]
  · have ht : r.take (sizeD r + 6) = wholeF (toldF r) ↔ fourF (r.take (sizeD r + 2)) = (r.drop (sizeD r + 2)).take 4 := by
      unfold wholeF
      rw [hb, show sizeD r + 6 = sizeD r + 2 + 4 by omega, take_split]
      constructor
      · intro e; exact (List.append_cancel_left e).symm
      · intro e; rw [e]
    unfold firstF frameD
    rw [if_neg (by omega), if_neg (by omega)]
    by_cases h3 : fourF (r.take (sizeD r + 2)) = (r.drop (sizeD r + 2)).take 4
    · have hd' : decE ((r.drop 2).take (sizeD r)) = 0 := hd
      have hc : sizeD r + 6 ≤ r.length ∧ r.take (sizeD r + 6) = wholeF (toldF r) := ⟨by omega, ht.2 h3⟩
      rw [if_pos h3, if_pos hd', if_pos hc]
      rfl
    · rw [if_neg h3, if_neg (fun e => h3 (ht.1 e.2))]
theorem firstF_pos (r : List UInt8) : ((firstF r).2 = 0 ∧ firstF r = (noCmt, 0) ∧ frameD fourF r = none) ∨ ((firstF r).2 = sizeD r + 6 ∧ frameD fourF r = some ((firstF r).1, r.drop (firstF r).2) ∧ (firstF r).2 ≤ r.length) := by
  cases h : frameD fourF r with
  | none => left; rw [firstF_none h]; exact ⟨rfl, rfl, rfl⟩
  | some q =>
    obtain ⟨c, r2⟩ := q
    right
    have e : firstF r = (c, sizeD r + 6) := by unfold firstF; rw [h]
    have h0 := h
    unfold frameD at h
    by_cases h1 : r.length < 6
    · rw [if_pos h1] at h; cases h
    rw [if_neg h1] at h
    by_cases h2 : r.length < sizeD r + 6 ∨ 4000 < sizeD r + 2
    · rw [if_pos h2] at h; cases h
    rw [if_neg h2] at h
    by_cases h3 : fourF (r.take (sizeD r + 2)) = (r.drop (sizeD r + 2)).take 4
    · rw [if_pos h3] at h
      by_cases h4 : decE ((r.drop 2).take (sizeD r)) = 0
      · rw [if_pos h4] at h
        simp only [Option.some.injEq, Prod.mk.injEq] at h
        rw [e]
        refine ⟨rfl, ?_, ?_⟩
        · rw [← h.2]
        · show sizeD r + 6 ≤ r.length
          omega
      · rw [if_neg h4] at h; cases h
    · rw [if_neg h3] at h; cases h
end Go.Proofs.YtkheombfjgjedacDoor
