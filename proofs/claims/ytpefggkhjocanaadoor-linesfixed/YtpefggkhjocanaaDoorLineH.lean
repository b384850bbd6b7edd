/-
  What P10.1 refuses, kind by kind, with no program.
-/
import Derived.Test.YtpefggkhjocanaaDoorLineF
namespace Go.Proofs.YtpefggkhjocanaaDoor
open Go.RowKit
theorem act_ask (s q : Int) (d : List UInt8) : actE ⟨1, s, q, d⟩ = if 0 ≤ s ∧ s ≤ 7 then (if 4000 < d.length then 1 else if q = 0 then 0 else 4) else 2 := by
  unfold actE
  rw [if_pos (by show (1 : Int) ≤ 1 ∧ (1 : Int) ≤ 4; omega)]
  by_cases h1 : 0 ≤ s ∧ s ≤ 7
  · rw [if_pos h1, if_neg (by rintro (⟨_, h⟩ | ⟨h, _⟩); exact h h1; cases h)]
    by_cases h2 : 4000 < d.length
    · rw [if_pos h2, if_pos h2]
    · rw [if_neg h2, if_neg h2]
      by_cases h3 : q = 0
      · rw [if_pos h3, if_neg]
        rintro (⟨h, _⟩ | ⟨_, h⟩ | ⟨h, _⟩)
        · exact h rfl
        · exact h h3
        · exact h rfl
      · rw [if_neg h3, if_pos (.inr (.inl ⟨by show (1 : Int) ≠ 3; decide, h3⟩))]
  · rw [if_neg h1, if_pos (.inl ⟨rfl, h1⟩)]
theorem act_crash (s q : Int) (d : List UInt8) : actE ⟨3, s, q, d⟩ = if 0 ≤ q ∧ q ≤ 200000 then (if 4000 < d.length then 1 else if s = 0 then (if 0 < d.length then 4 else 0) else 4) else 2 := by
  unfold actE
  rw [if_pos (by show (1 : Int) ≤ 3 ∧ (3 : Int) ≤ 4; omega)]
  by_cases h1 : 0 ≤ q ∧ q ≤ 200000
  · rw [if_pos h1, if_neg (by rintro (⟨h, _⟩ | ⟨_, h⟩); cases h; exact h h1)]
    by_cases h2 : 4000 < d.length
    · rw [if_pos h2, if_pos h2]
    · rw [if_neg h2, if_neg h2]
      by_cases h3 : s = 0
      · rw [if_pos h3]
        by_cases h4 : 0 < d.length
        · rw [if_pos h4, if_pos (.inr (.inr ⟨by show (3 : Int) ≠ 1; decide, h4⟩))]
        · rw [if_neg h4, if_neg]
          rintro (⟨_, h⟩ | ⟨h, _⟩ | ⟨_, h⟩)
          · exact h h3
          · exact h rfl
          · exact h4 h
      · rw [if_neg h3, if_pos (.inl ⟨by show (3 : Int) ≠ 1; decide, h3⟩)]
  · rw [if_neg h1, if_pos (.inr ⟨rfl, h1⟩)]
theorem act_bare (k s q : Int) (d : List UInt8) (hk : k = 2 ∨ k = 4) : actE ⟨k, s, q, d⟩ = if 4000 < d.length then 1 else if s = 0 then (if q = 0 then (if 0 < d.length then 4 else 0) else 4) else 4 := by
  unfold actE
  have k1 : ¬ k = 1 := by omega
  have k3 : ¬ k = 3 := by omega
  rw [if_pos (by show 1 ≤ k ∧ k ≤ 4; omega), if_neg (by rintro (⟨h, _⟩ | ⟨h, _⟩); exact k1 h; exact k3 h)]
  by_cases h2 : 4000 < d.length
  · rw [if_pos h2, if_pos h2]
  · rw [if_neg h2, if_neg h2]
    by_cases h3 : s = 0
    · rw [if_pos h3]
      by_cases h5 : q = 0
      · rw [if_pos h5]
        by_cases h4 : 0 < d.length
        · rw [if_pos h4, if_pos (.inr (.inr ⟨k1, h4⟩))]
        · rw [if_neg h4, if_neg]
          rintro (⟨_, h⟩ | ⟨_, h⟩ | ⟨_, h⟩)
          · exact h h3
          · exact h h5
          · exact h4 h
      · rw [if_neg h5, if_pos (.inr (.inl ⟨k3, h5⟩))]
    · rw [if_neg h3, if_pos (.inl ⟨k1, h3⟩)]
end Go.Proofs.YtpefggkhjocanaaDoor
