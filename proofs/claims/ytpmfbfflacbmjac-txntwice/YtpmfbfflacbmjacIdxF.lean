/-
  The first place of a list at which something holds: with no program.
-/
import Derived.Test.YtpmfbfflacbmjacBase
namespace Go.Proofs.Ytpmfbfflacbmjac
def firstN {α : Type} (p : α → Bool) : List α → Option Nat
  | [] => none
  | a :: l => if p a = true then some 0 else (firstN p l).map (· + 1)
/-- What slices.IndexFunc answers. -/
def firstP {α : Type} (p : α → Bool) (l : List α) : Int := match firstN p l with
  | some i => (i : Int)
  | none => -1
theorem firstN_hit {α : Type} (p : α → Bool) (d : α) : ∀ (l : List α) (m : Nat), m < l.length → (l.take m).any p = false → p (l.getD m d) = true → firstN p l = some m
  | [], _, h, _, _ => by simp at h
  | a :: l, 0, _, _, h => by
    have h' : p a = true := h
    rw [firstN, if_pos h']
  | a :: l, m + 1, h0, h1, h2 => by
    rw [List.take_succ_cons, List.any_cons, Bool.or_eq_false_iff] at h1
    rw [firstN, if_neg (by rw [h1.1]; decide), firstN_hit p d l m (by simpa using h0) h1.2 (by simpa using h2)]
    rfl
theorem firstN_none {α : Type} (p : α → Bool) : ∀ (l : List α), l.any p = false → firstN p l = none
  | [], _ => rfl
  | a :: l, h => by
    rw [List.any_cons, Bool.or_eq_false_iff] at h
    rw [firstN, if_neg (by rw [h.1]; decide), firstN_none p l h.2]
    rfl
theorem firstP_hit {α : Type} (p : α → Bool) (d : α) (l : List α) (m : Nat) (h : m < l.length) (h1 : (l.take m).any p = false) (h2 : p (l.getD m d) = true) : firstP p l = (m : Int) := by rw [firstP, firstN_hit p d l m h h1 h2]
theorem firstP_none {α : Type} (p : α → Bool) (l : List α) (h : l.any p = false) : firstP p l = -1 := by rw [firstP, firstN_none p l h]
theorem firstP_some {α : Type} (p : α → Bool) (d : α) : ∀ (l : List α), l.any p = true → ∃ m, m < l.length ∧ (l.take m).any p = false ∧ p (l.getD m d) = true ∧ firstP p l = (m : Int)
  | [], h => by simp at h
  | a :: l, h => by
    by_cases ha : p a = true
    · exact ⟨0, by simp, by simp, ha, firstP_hit p d (a :: l) 0 (by simp) (by simp) ha⟩
    · have hf : p a = false := by simpa using ha
      rw [List.any_cons, hf, Bool.false_or] at h
      obtain ⟨m, h1, h2, h3, _⟩ := firstP_some p d l h
      have e1 : m + 1 < (a :: l).length := by simp; omega
      have e2 : ((a :: l).take (m + 1)).any p = false := by rw [List.take_succ_cons, List.any_cons, hf, h2]; rfl
      have e3 : p ((a :: l).getD (m + 1) d) = true := by simpa using h3
      exact ⟨m + 1, e1, e2, e3, firstP_hit p d _ _ e1 e2 e3⟩
theorem firstP_neg {α : Type} (p : α → Bool) (l : List α) : (firstP p l == -1) = !(l.any p) := by
  cases h : l.any p with
  | false => rw [firstP_none p l h]; rfl
  | true =>
    cases l with
    | nil => simp at h
    | cons a l =>
      obtain ⟨m, _, _, _, e⟩ := firstP_some p a (a :: l) h
      rw [e]
      have : ((m : Int) == -1) = false := by simp
      rw [this]; rfl
theorem firstP_pos {α : Type} (p : α → Bool) (l : List α) : decide (0 ≤ firstP p l) = l.any p := by
  cases h : l.any p with
  | false => rw [firstP_none p l h]; rfl
  | true =>
    cases l with
    | nil => simp at h
    | cons a l =>
      obtain ⟨m, _, _, _, e⟩ := firstP_some p a (a :: l) h
      rw [e]
      simp
end Go.Proofs.Ytpmfbfflacbmjac
